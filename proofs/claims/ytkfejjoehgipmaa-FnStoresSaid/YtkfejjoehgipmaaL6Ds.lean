/-
  The contracts of chapter 6's drawn arguments of the specification: DrawFindItem, DrawPutItem, DrawDeleteItems. Condition: the drawn bytes lie below 2^62. (Written by my program gen_l6s.py.)
-/
import Derived.Test.YtkfejjoehgipmaaTk
import Derived.Test.YtkfejjoehgipmaaL6Dr
import Derived.Test.YtkfejjoehgipmaaSd4r
namespace Go.Proofs.Ytkfejjoehgipmaa.L6
set_option maxRecDepth 100000
open L4 (K isK cmpK R inR encU)
open L5 (F isR isN cellsF encR eqR Small Tame)
open Sd (curR)
open Go.ChangeShapes Go.WideShapes Go.ChangeAt Go.RowKit Mem Sl Ex L2 Sv Bag
set_option linter.unusedVariables false
set_option linter.unusedSimpArgs false

set_option maxHeartbeats 8000000 in
theorem drawFindItem_q {W w : World} {Q : Res} {a : Option Addr} {len : Nat} (cap : Nat) (hl : len ≤ 4611686018427387904) (hby : Bytes W W.heap.size a len) (h : Sl.Sep W w [Q]) :
    Calls Try.prog 56 #[.slice a len cap] w fun e w' => ∃ (y : LS) (k : K), e = .returned (.tuple #[y.v, k.v]) ∧ FitS y.con ∧ k.text.size ≤ 13 ∧ Sl.Sep W w' [Q, bag y.rows] := by
  have S1 := Lib.hid h
  clear h
  go_enter Try.func56, Try.ntmps56
  go_upto_region 1 with fail
  have S2 := Lib.hid (show Sl.Sep W _ [Q, L4.boxR w.heap.size 26 #[.string ⟨#[]⟩, .slice none 0 0, .int .i64 0], L4.boxR (w.heap.size + 1) 28 #[.int .i64 0, .int .i64 0, .string ⟨#[]⟩]] from L4.push_box (L4.push_box (S1.out) 26 #[.string ⟨#[]⟩, .slice none 0 0, .int .i64 0] (w.heap.size) (by simp)) 28 #[.int .i64 0, .int .i64 0, .string ⟨#[]⟩] (w.heap.size + 1) (by simp))
  clear S1
  obtain ⟨g1, hg⟩ : ∃ g', g' = w.heap.size := ⟨_, rfl⟩
  rw [← hg] at S2 ⊢
  clear hg
  obtain ⟨g2, hg⟩ : ∃ g', g' = g1 + 1 := ⟨_, rfl⟩
  (try rw [← hg] at S2); (try rw [← hg])
  clear hg
  obtain ⟨w1, hw⟩ : ∃ u, u = ((w.alloc (.cells #[.string ⟨#[]⟩, .slice none 0 0, .int .i64 0] 26)).alloc (.cells #[.int .i64 0, .int .i64 0, .string ⟨#[]⟩] 28)) := ⟨_, rfl⟩
  rw [← hw] at S2 ⊢
  clear hw
  go_wp2_with fail
  go_at_call 57
  refine (Sd.new_s S2.out _ _ _ hl hby).mono ?_
  rintro e w2 ⟨c, rfl, hS⟩
  have S3 := Lib.hid (show Sl.Sep W _ [Q, L4.boxR g1 26 #[.string ⟨#[]⟩, .slice none 0 0, .int .i64 0], L4.boxR g2 28 #[.int .i64 0, .int .i64 0, .string ⟨#[]⟩], curR W c] from hS)
  clear S2
  clear hS
  have S4 := Lib.hid (show Sl.Sep W _ [curR W c, Q, L4.boxR g1 26 #[.string ⟨#[]⟩, .slice none 0 0, .int .i64 0], L4.boxR g2 28 #[.int .i64 0, .int .i64 0, .string ⟨#[]⟩]] from Bag.take S3.out [3, 0, 1, 2] (by rfl) (by decide))
  clear S3
  have HC := l6Any_q (Run.packR (us := [curR W c]) (vs := [Q, L4.boxR g1 26 #[.string ⟨#[]⟩, .slice none 0 0, .int .i64 0], L4.boxR g2 28 #[.int .i64 0, .int .i64 0, .string ⟨#[]⟩]]) S4.out)
  go_wp2_with fail
  go_at_call 80
  refine HC.mono ?_
  clear HC
  rintro e w3 ⟨y, rfl, hF, hS⟩
  have HF := Lib.hid hF
  clear hF
  have S5 := Lib.hid (show Sl.Sep W _ [curR W c, Bag.bag y.rows, Q, L4.boxR g1 26 #[.string ⟨#[]⟩, .slice none 0 0, .int .i64 0], L4.boxR g2 28 #[.int .i64 0, .int .i64 0, .string ⟨#[]⟩]] from Run.unpackR (us := [curR W c, Bag.bag y.rows]) (vs := [Q, L4.boxR g1 26 #[.string ⟨#[]⟩, .slice none 0 0, .int .i64 0], L4.boxR g2 28 #[.int .i64 0, .int .i64 0, .string ⟨#[]⟩]]) (Bag.take hS [0, 2, 1] (by rfl) (by decide)))
  clear S4
  clear hS
  dsimp only [LS.v, LS.cells]
  go_upto_region 3 with fail
  have S6 := Lib.hid (show Sl.Sep W _ [curR W c, Bag.bag y.rows, Q, L4.boxR g1 26 #[.string ⟨#[]⟩, .slice none 0 0, .int .i64 0], L4.boxR g2 28 #[.int .i64 0, .int .i64 0, .string ⟨#[]⟩], L4.boxR w3.heap.size 26 #[.string y.name, .slice y.a y.xs.length y.c, .int .i64 y.auto]] from L4.push_box S5.out 26 #[.string y.name, .slice y.a y.xs.length y.c, .int .i64 y.auto] w3.heap.size rfl)
  clear S5
  obtain ⟨g3, hg⟩ : ∃ g', g' = w3.heap.size := ⟨_, rfl⟩
  rw [← hg] at S6 ⊢
  clear hg
  generalize w3.alloc (.cells #[.string y.name, .slice y.a y.xs.length y.c, .int .i64 y.auto] 26) = w4 at S6 ⊢
  go_wp2_with fail
  go_at_call 102
  refine (Sd.once_s S6.out 0 rfl _ (by decide) (by decide)).mono ?_
  rintro e w5 ⟨b, rfl, hS⟩
  have S7 := Lib.hid (show Sl.Sep W _ [curR W c, Bag.bag y.rows, Q, L4.boxR g1 26 #[.string ⟨#[]⟩, .slice none 0 0, .int .i64 0], L4.boxR g2 28 #[.int .i64 0, .int .i64 0, .string ⟨#[]⟩], L4.boxR g3 26 #[.string y.name, .slice y.a y.xs.length y.c, .int .i64 y.auto]] from hS)
  clear S6
  clear hS
  cases b with
  | true =>
    go_upto_region 4 with fail
    refine wp_region_held_drew (S := (fun w' => World.cell? w' ⟨g3, 0, none⟩ = some (.string y.name) ∧ World.cell? w' ⟨g3, 1, none⟩ = some (.slice y.a y.xs.length y.c) ∧ World.cell? w' ⟨g3, 2, none⟩ = some (.int .i64 y.auto))) (by kernel_rfl) ⟨Bag.cell_at S7.out 5 rfl 0 rfl, Bag.cell_at S7.out 5 rfl 1 rfl, Bag.cell_at S7.out 5 rfl 2 rfl⟩ (fun hS => ?_)
    have S8 := Lib.hid (show Sl.Sep W _ [curR W c, Bag.bag y.rows, Q, L4.boxR g1 26 #[.string ⟨#[]⟩, .slice none 0 0, .int .i64 0], L4.boxR g2 28 #[.int .i64 0, .int .i64 0, .string ⟨#[]⟩], L4.boxR g3 26 #[.string y.name, .slice y.a y.xs.length y.c, .int .i64 y.auto]] from Bag.drew1 S7.out)
    clear S7
    generalize World.drew _ = w6 at hS S8 ⊢
    refine tk 0 rfl ?_
    try simp only [zp0, zp1, zp2, zp3, zp4]
    refine tk 1 rfl ?_
    try simp only [zp0, zp1, zp2, zp3, zp4]
    refine Reg.one_op (i := 2) rfl (by kernel_rfl) (fun K hK => ?_)
    go_simp
    go_at_call 103
    refine (Sd.any_s S8.out 0 rfl).mono ?_
    rintro e w7 ⟨⟨kd, n, t⟩, rfl, hk, hS⟩
    have S9 := Lib.hid (show Sl.Sep W _ [curR W c, Bag.bag y.rows, Q, L4.boxR g1 26 #[.string ⟨#[]⟩, .slice none 0 0, .int .i64 0], L4.boxR g2 28 #[.int .i64 0, .int .i64 0, .string ⟨#[]⟩], L4.boxR g3 26 #[.string y.name, .slice y.a y.xs.length y.c, .int .i64 y.auto]] from hS)
    clear S8
    clear hS
    try dsimp only [L4.K.v, L4.R.v]
    have HK := Lib.hid (show t.size ≤ 13 from hk.2.2.2.2)
    clear hk
    go_wp2_with fail
    refine hK.out _ _ ⟨Bag.cell_at S9.out 5 rfl 0 rfl, Bag.cell_at S9.out 5 rfl 1 rfl, Bag.cell_at S9.out 5 rfl 2 rfl⟩ (fun hS => ?_)
    clear hK K
    try simp only [zp0, zp1, zp2, zp3, zp4]
    refine Reg.one_op (i := 3) rfl (by kernel_rfl) (fun K hK => ?_)
    have f0 : World.cell? _ ⟨g1, 0, none⟩ = some (.string ⟨#[]⟩) := Bag.cell_at S9.out 3 rfl 0 rfl
    have f1 : World.cell? _ ⟨g1, 1, none⟩ = some (.slice none 0 0) := Bag.cell_at S9.out 3 rfl 1 rfl
    have f2 : World.cell? _ ⟨g1, 2, none⟩ = some (.int .i64 0) := Bag.cell_at S9.out 3 rfl 2 rfl
    have z0 := Bag.free_at S9.out 3 rfl 0
    have z1 := Bag.free_at S9.out 3 rfl 1
    have z2 := Bag.free_at S9.out 3 rfl 2
    go_simp
    clear f0 f1 f2 z0 z1 z2
    have S10 := Lib.hid (show Sl.Sep W _ [curR W c, Bag.bag y.rows, Q, L4.boxR g1 26 #[.string y.name, .slice y.a y.xs.length y.c, .int .i64 y.auto], L4.boxR g2 28 #[.int .i64 0, .int .i64 0, .string ⟨#[]⟩], L4.boxR g3 26 #[.string y.name, .slice y.a y.xs.length y.c, .int .i64 y.auto]] from L5.put_box5 (L5.put_box5 (L5.put_box5 (S9.out) 3 rfl 0 (.string y.name)) 3 rfl 1 (.slice y.a y.xs.length y.c)) 3 rfl 2 (.int .i64 y.auto))
    clear S9
    refine hK.out _ _ ⟨Bag.cell_at S10.out 5 rfl 0 rfl, Bag.cell_at S10.out 5 rfl 1 rfl, Bag.cell_at S10.out 5 rfl 2 rfl⟩ (fun hS => ?_)
    clear hK K
    try simp only [zp0, zp1, zp2, zp3, zp4]
    refine Reg.one_op (i := 4) rfl (by kernel_rfl) (fun K hK => ?_)
    have f0 : World.cell? _ ⟨g2, 0, none⟩ = some (.int .i64 0) := Bag.cell_at S10.out 4 rfl 0 rfl
    have f1 : World.cell? _ ⟨g2, 1, none⟩ = some (.int .i64 0) := Bag.cell_at S10.out 4 rfl 1 rfl
    have f2 : World.cell? _ ⟨g2, 2, none⟩ = some (.string ⟨#[]⟩) := Bag.cell_at S10.out 4 rfl 2 rfl
    have z0 := Bag.free_at S10.out 4 rfl 0
    have z1 := Bag.free_at S10.out 4 rfl 1
    have z2 := Bag.free_at S10.out 4 rfl 2
    go_simp
    clear f0 f1 f2 z0 z1 z2
    have S11 := Lib.hid (show Sl.Sep W _ [curR W c, Bag.bag y.rows, Q, L4.boxR g1 26 #[.string y.name, .slice y.a y.xs.length y.c, .int .i64 y.auto], L4.boxR g2 28 #[.int .i64 kd, .int .i64 n, .string t], L4.boxR g3 26 #[.string y.name, .slice y.a y.xs.length y.c, .int .i64 y.auto]] from L5.put_box5 (L5.put_box5 (L5.put_box5 (S10.out) 4 rfl 0 (.int .i64 kd)) 4 rfl 1 (.int .i64 n)) 4 rfl 2 (.string t))
    clear S10
    refine hK.out _ _ ⟨Bag.cell_at S11.out 5 rfl 0 rfl, Bag.cell_at S11.out 5 rfl 1 rfl, Bag.cell_at S11.out 5 rfl 2 rfl⟩ (fun hS => ?_)
    clear hK K
    try simp only [zp0, zp1, zp2, zp3, zp4]
    refine wpAnyH_done (by kernel_rfl) ?_ _
    have f0 : World.cell? _ ⟨g1, 0, none⟩ = some (.string y.name) := Bag.cell_at S11.out 3 rfl 0 rfl
    have f1 : World.cell? _ ⟨g1, 1, none⟩ = some (.slice y.a y.xs.length y.c) := Bag.cell_at S11.out 3 rfl 1 rfl
    have f2 : World.cell? _ ⟨g1, 2, none⟩ = some (.int .i64 y.auto) := Bag.cell_at S11.out 3 rfl 2 rfl
    have f3 : World.cell? _ ⟨g2, 0, none⟩ = some (.int .i64 kd) := Bag.cell_at S11.out 4 rfl 0 rfl
    have f4 : World.cell? _ ⟨g2, 1, none⟩ = some (.int .i64 n) := Bag.cell_at S11.out 4 rfl 1 rfl
    have f5 : World.cell? _ ⟨g2, 2, none⟩ = some (.string t) := Bag.cell_at S11.out 4 rfl 2 rfl
    have f6 : World.cell? _ ⟨g3, 0, none⟩ = some (.string y.name) := Bag.cell_at S11.out 5 rfl 0 rfl
    have f7 : World.cell? _ ⟨g3, 1, none⟩ = some (.slice y.a y.xs.length y.c) := Bag.cell_at S11.out 5 rfl 1 rfl
    have f8 : World.cell? _ ⟨g3, 2, none⟩ = some (.int .i64 y.auto) := Bag.cell_at S11.out 5 rfl 2 rfl
    clear f0 f1 f2 f3 f4 f5 f6 f7 f8
    have f0 : World.cell? _ ⟨g1, 0, none⟩ = some (.string y.name) := Bag.cell_at S11.out 3 rfl 0 rfl
    have f1 : World.cell? _ ⟨g1, 1, none⟩ = some (.slice y.a y.xs.length y.c) := Bag.cell_at S11.out 3 rfl 1 rfl
    have f2 : World.cell? _ ⟨g1, 2, none⟩ = some (.int .i64 y.auto) := Bag.cell_at S11.out 3 rfl 2 rfl
    have f3 : World.cell? _ ⟨g2, 0, none⟩ = some (.int .i64 kd) := Bag.cell_at S11.out 4 rfl 0 rfl
    have f4 : World.cell? _ ⟨g2, 1, none⟩ = some (.int .i64 n) := Bag.cell_at S11.out 4 rfl 1 rfl
    have f5 : World.cell? _ ⟨g2, 2, none⟩ = some (.string t) := Bag.cell_at S11.out 4 rfl 2 rfl
    go_wp2_with fail
    refine bodyPost_ret (v := .tuple #[.agg #[.string y.name, .slice y.a y.xs.length y.c, .int .i64 y.auto], .agg #[.int .i64 kd, .int .i64 n, .string t]]) (by simp [results, Try.results56, go_sem, *]) rfl ?_
    clear f0 f1 f2 f3 f4 f5
    have S12 := Lib.hid (show Sl.Sep W _ [Q, Bag.bag y.rows] from Bag.take S11.out [2, 1] (by rfl) (by decide))
    clear S11
    exact ⟨y, ⟨kd, n, t⟩, rfl, HF.out, HK.out, S12.out⟩
  | false =>
    go_upto_region 5 with fail
    refine wp_region_held_drew (S := (fun w' => World.cell? w' ⟨g3, 0, none⟩ = some (.string y.name) ∧ World.cell? w' ⟨g3, 1, none⟩ = some (.slice y.a y.xs.length y.c) ∧ World.cell? w' ⟨g3, 2, none⟩ = some (.int .i64 y.auto))) (by kernel_rfl) ⟨Bag.cell_at S7.out 5 rfl 0 rfl, Bag.cell_at S7.out 5 rfl 1 rfl, Bag.cell_at S7.out 5 rfl 2 rfl⟩ (fun hS => ?_)
    have S8 := Lib.hid (show Sl.Sep W _ [curR W c, Bag.bag y.rows, Q, L4.boxR g1 26 #[.string ⟨#[]⟩, .slice none 0 0, .int .i64 0], L4.boxR g2 28 #[.int .i64 0, .int .i64 0, .string ⟨#[]⟩], L4.boxR g3 26 #[.string y.name, .slice y.a y.xs.length y.c, .int .i64 y.auto]] from Bag.drew1 S7.out)
    clear S7
    generalize World.drew _ = w6 at hS S8 ⊢
    refine tk 0 rfl ?_
    try simp only [zp0, zp1, zp2, zp3, zp4]
    refine tk 1 rfl ?_
    try simp only [zp0, zp1, zp2, zp3, zp4]
    refine Reg.one_op (i := 2) rfl (by kernel_rfl) (fun K hK => ?_)
    go_simp
    go_at_call 104
    refine (Sd.small_n S8.out 0 rfl).mono ?_
    rintro e w7 ⟨⟨kd, n, t⟩, rfl, hk, hS⟩
    have S9 := Lib.hid (show Sl.Sep W _ [curR W c, Bag.bag y.rows, Q, L4.boxR g1 26 #[.string ⟨#[]⟩, .slice none 0 0, .int .i64 0], L4.boxR g2 28 #[.int .i64 0, .int .i64 0, .string ⟨#[]⟩], L4.boxR g3 26 #[.string y.name, .slice y.a y.xs.length y.c, .int .i64 y.auto]] from hS)
    clear S8
    clear hS
    try dsimp only [L4.K.v, L4.R.v]
    have HK := Lib.hid (show t.size ≤ 13 from Nat.le_trans hk.2.1 (by decide))
    clear hk
    go_wp2_with fail
    refine hK.out _ _ ⟨Bag.cell_at S9.out 5 rfl 0 rfl, Bag.cell_at S9.out 5 rfl 1 rfl, Bag.cell_at S9.out 5 rfl 2 rfl⟩ (fun hS => ?_)
    clear hK K
    try simp only [zp0, zp1, zp2, zp3, zp4]
    refine Reg.one_op (i := 3) rfl (by kernel_rfl) (fun K hK => ?_)
    have f0 : World.cell? _ ⟨g1, 0, none⟩ = some (.string ⟨#[]⟩) := Bag.cell_at S9.out 3 rfl 0 rfl
    have f1 : World.cell? _ ⟨g1, 1, none⟩ = some (.slice none 0 0) := Bag.cell_at S9.out 3 rfl 1 rfl
    have f2 : World.cell? _ ⟨g1, 2, none⟩ = some (.int .i64 0) := Bag.cell_at S9.out 3 rfl 2 rfl
    have z0 := Bag.free_at S9.out 3 rfl 0
    have z1 := Bag.free_at S9.out 3 rfl 1
    have z2 := Bag.free_at S9.out 3 rfl 2
    go_simp
    clear f0 f1 f2 z0 z1 z2
    have S10 := Lib.hid (show Sl.Sep W _ [curR W c, Bag.bag y.rows, Q, L4.boxR g1 26 #[.string y.name, .slice y.a y.xs.length y.c, .int .i64 y.auto], L4.boxR g2 28 #[.int .i64 0, .int .i64 0, .string ⟨#[]⟩], L4.boxR g3 26 #[.string y.name, .slice y.a y.xs.length y.c, .int .i64 y.auto]] from L5.put_box5 (L5.put_box5 (L5.put_box5 (S9.out) 3 rfl 0 (.string y.name)) 3 rfl 1 (.slice y.a y.xs.length y.c)) 3 rfl 2 (.int .i64 y.auto))
    clear S9
    refine hK.out _ _ ⟨Bag.cell_at S10.out 5 rfl 0 rfl, Bag.cell_at S10.out 5 rfl 1 rfl, Bag.cell_at S10.out 5 rfl 2 rfl⟩ (fun hS => ?_)
    clear hK K
    try simp only [zp0, zp1, zp2, zp3, zp4]
    refine Reg.one_op (i := 4) rfl (by kernel_rfl) (fun K hK => ?_)
    have f0 : World.cell? _ ⟨g2, 0, none⟩ = some (.int .i64 0) := Bag.cell_at S10.out 4 rfl 0 rfl
    have f1 : World.cell? _ ⟨g2, 1, none⟩ = some (.int .i64 0) := Bag.cell_at S10.out 4 rfl 1 rfl
    have f2 : World.cell? _ ⟨g2, 2, none⟩ = some (.string ⟨#[]⟩) := Bag.cell_at S10.out 4 rfl 2 rfl
    have z0 := Bag.free_at S10.out 4 rfl 0
    have z1 := Bag.free_at S10.out 4 rfl 1
    have z2 := Bag.free_at S10.out 4 rfl 2
    go_simp
    clear f0 f1 f2 z0 z1 z2
    have S11 := Lib.hid (show Sl.Sep W _ [curR W c, Bag.bag y.rows, Q, L4.boxR g1 26 #[.string y.name, .slice y.a y.xs.length y.c, .int .i64 y.auto], L4.boxR g2 28 #[.int .i64 kd, .int .i64 n, .string t], L4.boxR g3 26 #[.string y.name, .slice y.a y.xs.length y.c, .int .i64 y.auto]] from L5.put_box5 (L5.put_box5 (L5.put_box5 (S10.out) 4 rfl 0 (.int .i64 kd)) 4 rfl 1 (.int .i64 n)) 4 rfl 2 (.string t))
    clear S10
    refine hK.out _ _ ⟨Bag.cell_at S11.out 5 rfl 0 rfl, Bag.cell_at S11.out 5 rfl 1 rfl, Bag.cell_at S11.out 5 rfl 2 rfl⟩ (fun hS => ?_)
    clear hK K
    try simp only [zp0, zp1, zp2, zp3, zp4]
    refine wpAnyH_done (by kernel_rfl) ?_ _
    have f0 : World.cell? _ ⟨g1, 0, none⟩ = some (.string y.name) := Bag.cell_at S11.out 3 rfl 0 rfl
    have f1 : World.cell? _ ⟨g1, 1, none⟩ = some (.slice y.a y.xs.length y.c) := Bag.cell_at S11.out 3 rfl 1 rfl
    have f2 : World.cell? _ ⟨g1, 2, none⟩ = some (.int .i64 y.auto) := Bag.cell_at S11.out 3 rfl 2 rfl
    have f3 : World.cell? _ ⟨g2, 0, none⟩ = some (.int .i64 kd) := Bag.cell_at S11.out 4 rfl 0 rfl
    have f4 : World.cell? _ ⟨g2, 1, none⟩ = some (.int .i64 n) := Bag.cell_at S11.out 4 rfl 1 rfl
    have f5 : World.cell? _ ⟨g2, 2, none⟩ = some (.string t) := Bag.cell_at S11.out 4 rfl 2 rfl
    have f6 : World.cell? _ ⟨g3, 0, none⟩ = some (.string y.name) := Bag.cell_at S11.out 5 rfl 0 rfl
    have f7 : World.cell? _ ⟨g3, 1, none⟩ = some (.slice y.a y.xs.length y.c) := Bag.cell_at S11.out 5 rfl 1 rfl
    have f8 : World.cell? _ ⟨g3, 2, none⟩ = some (.int .i64 y.auto) := Bag.cell_at S11.out 5 rfl 2 rfl
    clear f0 f1 f2 f3 f4 f5 f6 f7 f8
    have f0 : World.cell? _ ⟨g1, 0, none⟩ = some (.string y.name) := Bag.cell_at S11.out 3 rfl 0 rfl
    have f1 : World.cell? _ ⟨g1, 1, none⟩ = some (.slice y.a y.xs.length y.c) := Bag.cell_at S11.out 3 rfl 1 rfl
    have f2 : World.cell? _ ⟨g1, 2, none⟩ = some (.int .i64 y.auto) := Bag.cell_at S11.out 3 rfl 2 rfl
    have f3 : World.cell? _ ⟨g2, 0, none⟩ = some (.int .i64 kd) := Bag.cell_at S11.out 4 rfl 0 rfl
    have f4 : World.cell? _ ⟨g2, 1, none⟩ = some (.int .i64 n) := Bag.cell_at S11.out 4 rfl 1 rfl
    have f5 : World.cell? _ ⟨g2, 2, none⟩ = some (.string t) := Bag.cell_at S11.out 4 rfl 2 rfl
    go_wp2_with fail
    refine bodyPost_ret (v := .tuple #[.agg #[.string y.name, .slice y.a y.xs.length y.c, .int .i64 y.auto], .agg #[.int .i64 kd, .int .i64 n, .string t]]) (by simp [results, Try.results56, go_sem, *]) rfl ?_
    clear f0 f1 f2 f3 f4 f5
    have S12 := Lib.hid (show Sl.Sep W _ [Q, Bag.bag y.rows] from Bag.take S11.out [2, 1] (by rfl) (by decide))
    clear S11
    exact ⟨y, ⟨kd, n, t⟩, rfl, HF.out, HK.out, S12.out⟩
set_option maxHeartbeats 8000000 in
theorem drawPutItem_q {W w : World} {a : Option Addr} {len : Nat} (cap : Nat) (hl : len ≤ 4611686018427387904) (hby : Bytes W W.heap.size a len) (h : Sl.Sep W w []) :
    Calls Try.prog 15 #[.slice a len cap] w fun e w' => ∃ (y : LS) (k : K) (A : Option Addr) (C : Nat) (l : List F), e = .returned (.tuple #[y.v, k.v, .agg #[.slice A l.length C]]) ∧ FitS y.con ∧ k.text.size ≤ 13 ∧ Tame l 9 ∧ Sl.Sep W w' [bag y.rows, Sv.ownV 102 2 A C l.length (cellsF l)] := by
  have S1 := Lib.hid h
  clear h
  go_enter Try.func15, Try.ntmps15
  go_upto_region 1 with fail
  have S2 := Lib.hid (show Sl.Sep W _ [L4.boxR w.heap.size 26 #[.string ⟨#[]⟩, .slice none 0 0, .int .i64 0], L4.boxR (w.heap.size + 1) 28 #[.int .i64 0, .int .i64 0, .string ⟨#[]⟩], L4.boxR (w.heap.size + 1 + 1) 31 #[.slice none 0 0]] from L4.push_box (L4.push_box (L4.push_box (S1.out) 26 #[.string ⟨#[]⟩, .slice none 0 0, .int .i64 0] (w.heap.size) (by simp)) 28 #[.int .i64 0, .int .i64 0, .string ⟨#[]⟩] (w.heap.size + 1) (by simp)) 31 #[.slice none 0 0] (w.heap.size + 1 + 1) (by simp))
  clear S1
  obtain ⟨g1, hg⟩ : ∃ g', g' = w.heap.size := ⟨_, rfl⟩
  rw [← hg] at S2 ⊢
  clear hg
  obtain ⟨g2, hg⟩ : ∃ g', g' = g1 + 1 := ⟨_, rfl⟩
  (try rw [← hg] at S2); (try rw [← hg])
  clear hg
  obtain ⟨g3, hg⟩ : ∃ g', g' = g2 + 1 := ⟨_, rfl⟩
  (try rw [← hg] at S2); (try rw [← hg])
  clear hg
  obtain ⟨w1, hw⟩ : ∃ u, u = (((w.alloc (.cells #[.string ⟨#[]⟩, .slice none 0 0, .int .i64 0] 26)).alloc (.cells #[.int .i64 0, .int .i64 0, .string ⟨#[]⟩] 28)).alloc (.cells #[.slice none 0 0] 31)) := ⟨_, rfl⟩
  rw [← hw] at S2 ⊢
  clear hw
  have HC := drawFindItem_q cap hl hby (Run.packR (us := []) (vs := [L4.boxR g1 26 #[.string ⟨#[]⟩, .slice none 0 0, .int .i64 0], L4.boxR g2 28 #[.int .i64 0, .int .i64 0, .string ⟨#[]⟩], L4.boxR g3 31 #[.slice none 0 0]]) S2.out)
  go_wp2_with fail
  go_at_call 56
  refine HC.mono ?_
  clear HC
  rintro e w2 ⟨y, ⟨kd, n, t⟩, rfl, hF, hk, hS⟩
  have HF := Lib.hid hF
  have HK := Lib.hid hk
  clear hF hk
  have S3 := Lib.hid (show Sl.Sep W _ [Bag.bag y.rows, L4.boxR g1 26 #[.string ⟨#[]⟩, .slice none 0 0, .int .i64 0], L4.boxR g2 28 #[.int .i64 0, .int .i64 0, .string ⟨#[]⟩], L4.boxR g3 31 #[.slice none 0 0]] from Run.unpackR (us := [Bag.bag y.rows]) (vs := [L4.boxR g1 26 #[.string ⟨#[]⟩, .slice none 0 0, .int .i64 0], L4.boxR g2 28 #[.int .i64 0, .int .i64 0, .string ⟨#[]⟩], L4.boxR g3 31 #[.slice none 0 0]]) (Bag.take hS [1, 0] (by rfl) (by decide)))
  clear S2
  clear hS
  dsimp only [LS.v, LS.cells, L4.K.v]
  go_upto_region 2 with fail
  have S4 := Lib.hid (show Sl.Sep W _ [Bag.bag y.rows, L4.boxR g1 26 #[.string ⟨#[]⟩, .slice none 0 0, .int .i64 0], L4.boxR g2 28 #[.int .i64 0, .int .i64 0, .string ⟨#[]⟩], L4.boxR g3 31 #[.slice none 0 0], L4.boxR w2.heap.size 26 #[.string y.name, .slice y.a y.xs.length y.c, .int .i64 y.auto], L4.boxR (w2.heap.size + 1) 28 #[.int .i64 kd, .int .i64 n, .string t]] from L4.push_box (L4.push_box (S3.out) 26 #[.string y.name, .slice y.a y.xs.length y.c, .int .i64 y.auto] (w2.heap.size) (by simp)) 28 #[.int .i64 kd, .int .i64 n, .string t] (w2.heap.size + 1) (by simp))
  clear S3
  obtain ⟨g4, hg⟩ : ∃ g', g' = w2.heap.size := ⟨_, rfl⟩
  rw [← hg] at S4 ⊢
  clear hg
  obtain ⟨g5, hg⟩ : ∃ g', g' = g4 + 1 := ⟨_, rfl⟩
  (try rw [← hg] at S4); (try rw [← hg])
  clear hg
  obtain ⟨w3, hw⟩ : ∃ u, u = ((w2.alloc (.cells #[.string y.name, .slice y.a y.xs.length y.c, .int .i64 y.auto] 26)).alloc (.cells #[.int .i64 kd, .int .i64 n, .string t] 28)) := ⟨_, rfl⟩
  rw [← hw] at S4 ⊢
  clear hw
  go_wp2_with fail
  go_at_call 57
  refine (Sd.new_s S4.out _ _ _ hl hby).mono ?_
  rintro e w4 ⟨c, rfl, hS⟩
  have S5 := Lib.hid (show Sl.Sep W _ [Bag.bag y.rows, L4.boxR g1 26 #[.string ⟨#[]⟩, .slice none 0 0, .int .i64 0], L4.boxR g2 28 #[.int .i64 0, .int .i64 0, .string ⟨#[]⟩], L4.boxR g3 31 #[.slice none 0 0], L4.boxR g4 26 #[.string y.name, .slice y.a y.xs.length y.c, .int .i64 y.auto], L4.boxR g5 28 #[.int .i64 kd, .int .i64 n, .string t], curR W c] from hS)
  clear S4
  clear hS
  go_upto_region 3 with fail
  refine wp_region_held_drew (S := (fun w' => World.cell? w' ⟨g4, 0, none⟩ = some (.string y.name) ∧ World.cell? w' ⟨g4, 1, none⟩ = some (.slice y.a y.xs.length y.c) ∧ World.cell? w' ⟨g4, 2, none⟩ = some (.int .i64 y.auto) ∧ World.cell? w' ⟨g5, 0, none⟩ = some (.int .i64 kd) ∧ World.cell? w' ⟨g5, 1, none⟩ = some (.int .i64 n) ∧ World.cell? w' ⟨g5, 2, none⟩ = some (.string t))) (by kernel_rfl) ⟨Bag.cell_at S5.out 4 rfl 0 rfl, Bag.cell_at S5.out 4 rfl 1 rfl, Bag.cell_at S5.out 4 rfl 2 rfl, Bag.cell_at S5.out 5 rfl 0 rfl, Bag.cell_at S5.out 5 rfl 1 rfl, Bag.cell_at S5.out 5 rfl 2 rfl⟩ (fun hS => ?_)
  have S6 := Lib.hid (show Sl.Sep W _ [Bag.bag y.rows, L4.boxR g1 26 #[.string ⟨#[]⟩, .slice none 0 0, .int .i64 0], L4.boxR g2 28 #[.int .i64 0, .int .i64 0, .string ⟨#[]⟩], L4.boxR g3 31 #[.slice none 0 0], L4.boxR g4 26 #[.string y.name, .slice y.a y.xs.length y.c, .int .i64 y.auto], L4.boxR g5 28 #[.int .i64 kd, .int .i64 n, .string t], curR W c] from Bag.drew1 S5.out)
  clear S5
  generalize World.drew _ = w5 at hS S6 ⊢
  refine tk 0 rfl ?_
  try simp only [zp0, zp1, zp2, zp3, zp4]
  refine tk 1 rfl ?_
  try simp only [zp0, zp1, zp2, zp3, zp4]
  refine tk 2 rfl ?_
  try simp only [zp0, zp1, zp2, zp3, zp4]
  refine Reg.one_op (i := 3) rfl (by kernel_rfl) (fun K hK => ?_)
  go_simp
  go_at_call 58
  refine (L5.any_s S6.out 6 rfl).mono ?_
  rintro e w6 ⟨a1, c1, l, rfl, hT, hS⟩
  have S7 := Lib.hid (show Sl.Sep W _ [Bag.bag y.rows, L4.boxR g1 26 #[.string ⟨#[]⟩, .slice none 0 0, .int .i64 0], L4.boxR g2 28 #[.int .i64 0, .int .i64 0, .string ⟨#[]⟩], L4.boxR g3 31 #[.slice none 0 0], L4.boxR g4 26 #[.string y.name, .slice y.a y.xs.length y.c, .int .i64 y.auto], L4.boxR g5 28 #[.int .i64 kd, .int .i64 n, .string t], curR W c, Sv.ownV 102 2 a1 c1 l.length (cellsF l)] from hS)
  clear S6
  clear hS
  try dsimp only [L4.K.v, L4.R.v]
  have HT := Lib.hid hT
  clear hT
  go_wp2_with fail
  refine hK.out _ _ ⟨Bag.cell_at S7.out 4 rfl 0 rfl, Bag.cell_at S7.out 4 rfl 1 rfl, Bag.cell_at S7.out 4 rfl 2 rfl, Bag.cell_at S7.out 5 rfl 0 rfl, Bag.cell_at S7.out 5 rfl 1 rfl, Bag.cell_at S7.out 5 rfl 2 rfl⟩ (fun hS => ?_)
  clear hK K
  try simp only [zp0, zp1, zp2, zp3, zp4]
  refine Reg.one_op (i := 4) rfl (by kernel_rfl) (fun K hK => ?_)
  have f0 : World.cell? _ ⟨g1, 0, none⟩ = some (.string ⟨#[]⟩) := Bag.cell_at S7.out 1 rfl 0 rfl
  have f1 : World.cell? _ ⟨g1, 1, none⟩ = some (.slice none 0 0) := Bag.cell_at S7.out 1 rfl 1 rfl
  have f2 : World.cell? _ ⟨g1, 2, none⟩ = some (.int .i64 0) := Bag.cell_at S7.out 1 rfl 2 rfl
  have z0 := Bag.free_at S7.out 1 rfl 0
  have z1 := Bag.free_at S7.out 1 rfl 1
  have z2 := Bag.free_at S7.out 1 rfl 2
  go_simp
  clear f0 f1 f2 z0 z1 z2
  have S8 := Lib.hid (show Sl.Sep W _ [Bag.bag y.rows, L4.boxR g1 26 #[.string y.name, .slice y.a y.xs.length y.c, .int .i64 y.auto], L4.boxR g2 28 #[.int .i64 0, .int .i64 0, .string ⟨#[]⟩], L4.boxR g3 31 #[.slice none 0 0], L4.boxR g4 26 #[.string y.name, .slice y.a y.xs.length y.c, .int .i64 y.auto], L4.boxR g5 28 #[.int .i64 kd, .int .i64 n, .string t], curR W c, Sv.ownV 102 2 a1 c1 l.length (cellsF l)] from L5.put_box5 (L5.put_box5 (L5.put_box5 (S7.out) 1 rfl 0 (.string y.name)) 1 rfl 1 (.slice y.a y.xs.length y.c)) 1 rfl 2 (.int .i64 y.auto))
  clear S7
  refine hK.out _ _ ⟨Bag.cell_at S8.out 4 rfl 0 rfl, Bag.cell_at S8.out 4 rfl 1 rfl, Bag.cell_at S8.out 4 rfl 2 rfl, Bag.cell_at S8.out 5 rfl 0 rfl, Bag.cell_at S8.out 5 rfl 1 rfl, Bag.cell_at S8.out 5 rfl 2 rfl⟩ (fun hS => ?_)
  clear hK K
  try simp only [zp0, zp1, zp2, zp3, zp4]
  refine Reg.one_op (i := 5) rfl (by kernel_rfl) (fun K hK => ?_)
  have f0 : World.cell? _ ⟨g2, 0, none⟩ = some (.int .i64 0) := Bag.cell_at S8.out 2 rfl 0 rfl
  have f1 : World.cell? _ ⟨g2, 1, none⟩ = some (.int .i64 0) := Bag.cell_at S8.out 2 rfl 1 rfl
  have f2 : World.cell? _ ⟨g2, 2, none⟩ = some (.string ⟨#[]⟩) := Bag.cell_at S8.out 2 rfl 2 rfl
  have z0 := Bag.free_at S8.out 2 rfl 0
  have z1 := Bag.free_at S8.out 2 rfl 1
  have z2 := Bag.free_at S8.out 2 rfl 2
  go_simp
  clear f0 f1 f2 z0 z1 z2
  have S9 := Lib.hid (show Sl.Sep W _ [Bag.bag y.rows, L4.boxR g1 26 #[.string y.name, .slice y.a y.xs.length y.c, .int .i64 y.auto], L4.boxR g2 28 #[.int .i64 kd, .int .i64 n, .string t], L4.boxR g3 31 #[.slice none 0 0], L4.boxR g4 26 #[.string y.name, .slice y.a y.xs.length y.c, .int .i64 y.auto], L4.boxR g5 28 #[.int .i64 kd, .int .i64 n, .string t], curR W c, Sv.ownV 102 2 a1 c1 l.length (cellsF l)] from L5.put_box5 (L5.put_box5 (L5.put_box5 (S8.out) 2 rfl 0 (.int .i64 kd)) 2 rfl 1 (.int .i64 n)) 2 rfl 2 (.string t))
  clear S8
  refine hK.out _ _ ⟨Bag.cell_at S9.out 4 rfl 0 rfl, Bag.cell_at S9.out 4 rfl 1 rfl, Bag.cell_at S9.out 4 rfl 2 rfl, Bag.cell_at S9.out 5 rfl 0 rfl, Bag.cell_at S9.out 5 rfl 1 rfl, Bag.cell_at S9.out 5 rfl 2 rfl⟩ (fun hS => ?_)
  clear hK K
  try simp only [zp0, zp1, zp2, zp3, zp4]
  refine Reg.one_op (i := 6) rfl (by kernel_rfl) (fun K hK => ?_)
  have f0 : World.cell? _ ⟨g3, 0, none⟩ = some (.slice none 0 0) := Bag.cell_at S9.out 3 rfl 0 rfl
  have z0 := Bag.free_at S9.out 3 rfl 0
  go_simp
  clear f0 z0
  have S10 := Lib.hid (show Sl.Sep W _ [Bag.bag y.rows, L4.boxR g1 26 #[.string y.name, .slice y.a y.xs.length y.c, .int .i64 y.auto], L4.boxR g2 28 #[.int .i64 kd, .int .i64 n, .string t], L4.boxR g3 31 #[.slice a1 l.length c1], L4.boxR g4 26 #[.string y.name, .slice y.a y.xs.length y.c, .int .i64 y.auto], L4.boxR g5 28 #[.int .i64 kd, .int .i64 n, .string t], curR W c, Sv.ownV 102 2 a1 c1 l.length (cellsF l)] from L5.put_box5 (S9.out) 3 rfl 0 (.slice a1 l.length c1))
  clear S9
  refine hK.out _ _ ⟨Bag.cell_at S10.out 4 rfl 0 rfl, Bag.cell_at S10.out 4 rfl 1 rfl, Bag.cell_at S10.out 4 rfl 2 rfl, Bag.cell_at S10.out 5 rfl 0 rfl, Bag.cell_at S10.out 5 rfl 1 rfl, Bag.cell_at S10.out 5 rfl 2 rfl⟩ (fun hS => ?_)
  clear hK K
  try simp only [zp0, zp1, zp2, zp3, zp4]
  refine wpAnyH_done (by kernel_rfl) ?_ _
  have f0 : World.cell? _ ⟨g1, 0, none⟩ = some (.string y.name) := Bag.cell_at S10.out 1 rfl 0 rfl
  have f1 : World.cell? _ ⟨g1, 1, none⟩ = some (.slice y.a y.xs.length y.c) := Bag.cell_at S10.out 1 rfl 1 rfl
  have f2 : World.cell? _ ⟨g1, 2, none⟩ = some (.int .i64 y.auto) := Bag.cell_at S10.out 1 rfl 2 rfl
  have f3 : World.cell? _ ⟨g2, 0, none⟩ = some (.int .i64 kd) := Bag.cell_at S10.out 2 rfl 0 rfl
  have f4 : World.cell? _ ⟨g2, 1, none⟩ = some (.int .i64 n) := Bag.cell_at S10.out 2 rfl 1 rfl
  have f5 : World.cell? _ ⟨g2, 2, none⟩ = some (.string t) := Bag.cell_at S10.out 2 rfl 2 rfl
  have f6 : World.cell? _ ⟨g3, 0, none⟩ = some (.slice a1 l.length c1) := Bag.cell_at S10.out 3 rfl 0 rfl
  have f7 : World.cell? _ ⟨g4, 0, none⟩ = some (.string y.name) := Bag.cell_at S10.out 4 rfl 0 rfl
  have f8 : World.cell? _ ⟨g4, 1, none⟩ = some (.slice y.a y.xs.length y.c) := Bag.cell_at S10.out 4 rfl 1 rfl
  have f9 : World.cell? _ ⟨g4, 2, none⟩ = some (.int .i64 y.auto) := Bag.cell_at S10.out 4 rfl 2 rfl
  have f10 : World.cell? _ ⟨g5, 0, none⟩ = some (.int .i64 kd) := Bag.cell_at S10.out 5 rfl 0 rfl
  have f11 : World.cell? _ ⟨g5, 1, none⟩ = some (.int .i64 n) := Bag.cell_at S10.out 5 rfl 1 rfl
  have f12 : World.cell? _ ⟨g5, 2, none⟩ = some (.string t) := Bag.cell_at S10.out 5 rfl 2 rfl
  clear f0 f1 f2 f3 f4 f5 f6 f7 f8 f9 f10 f11 f12
  have f0 : World.cell? _ ⟨g1, 0, none⟩ = some (.string y.name) := Bag.cell_at S10.out 1 rfl 0 rfl
  have f1 : World.cell? _ ⟨g1, 1, none⟩ = some (.slice y.a y.xs.length y.c) := Bag.cell_at S10.out 1 rfl 1 rfl
  have f2 : World.cell? _ ⟨g1, 2, none⟩ = some (.int .i64 y.auto) := Bag.cell_at S10.out 1 rfl 2 rfl
  have f3 : World.cell? _ ⟨g2, 0, none⟩ = some (.int .i64 kd) := Bag.cell_at S10.out 2 rfl 0 rfl
  have f4 : World.cell? _ ⟨g2, 1, none⟩ = some (.int .i64 n) := Bag.cell_at S10.out 2 rfl 1 rfl
  have f5 : World.cell? _ ⟨g2, 2, none⟩ = some (.string t) := Bag.cell_at S10.out 2 rfl 2 rfl
  have f6 : World.cell? _ ⟨g3, 0, none⟩ = some (.slice a1 l.length c1) := Bag.cell_at S10.out 3 rfl 0 rfl
  go_wp2_with fail
  refine bodyPost_ret (v := .tuple #[.agg #[.string y.name, .slice y.a y.xs.length y.c, .int .i64 y.auto], .agg #[.int .i64 kd, .int .i64 n, .string t], .agg #[.slice a1 l.length c1]]) (by simp [results, Try.results15, go_sem, *]) rfl ?_
  clear f0 f1 f2 f3 f4 f5 f6
  have S11 := Lib.hid (show Sl.Sep W _ [Bag.bag y.rows, Sv.ownV 102 2 a1 c1 l.length (cellsF l)] from Bag.take S10.out [0, 7] (by rfl) (by decide))
  clear S10
  exact ⟨y, ⟨kd, n, t⟩, a1, c1, l, rfl, HF.out, HK.out, HT.out, S11.out⟩
set_option maxHeartbeats 8000000 in
theorem drawDeleteItems_q {W w : World} {a : Option Addr} {len : Nat} (cap : Nat) (hl : len ≤ 4611686018427387904) (hby : Bytes W W.heap.size a len) (h : Sl.Sep W w []) :
    Calls Try.prog 25 #[.slice a len cap] w fun e w' => ∃ (y : LS) (r : R), e = .returned (.tuple #[y.v, r.v]) ∧ FitS y.con ∧ (r.lo.text.size = 0 ∧ r.hi.text.size = 0) ∧ Sl.Sep W w' [bag y.rows] := by
  have S1 := Lib.hid h
  clear h
  go_enter Try.func25, Try.ntmps25
  go_upto_region 1 with fail
  have S2 := Lib.hid (show Sl.Sep W _ [L4.boxR w.heap.size 26 #[.string ⟨#[]⟩, .slice none 0 0, .int .i64 0], L4.boxR (w.heap.size + 1) 45 #[.bool false, .bool false, .int .i64 0, .int .i64 0, .string ⟨#[]⟩, .int .i64 0, .int .i64 0, .string ⟨#[]⟩]] from L4.push_box (L4.push_box (S1.out) 26 #[.string ⟨#[]⟩, .slice none 0 0, .int .i64 0] (w.heap.size) (by simp)) 45 #[.bool false, .bool false, .int .i64 0, .int .i64 0, .string ⟨#[]⟩, .int .i64 0, .int .i64 0, .string ⟨#[]⟩] (w.heap.size + 1) (by simp))
  clear S1
  obtain ⟨g1, hg⟩ : ∃ g', g' = w.heap.size := ⟨_, rfl⟩
  rw [← hg] at S2 ⊢
  clear hg
  obtain ⟨g2, hg⟩ : ∃ g', g' = g1 + 1 := ⟨_, rfl⟩
  (try rw [← hg] at S2); (try rw [← hg])
  clear hg
  obtain ⟨w1, hw⟩ : ∃ u, u = ((w.alloc (.cells #[.string ⟨#[]⟩, .slice none 0 0, .int .i64 0] 26)).alloc (.cells #[.bool false, .bool false, .int .i64 0, .int .i64 0, .string ⟨#[]⟩, .int .i64 0, .int .i64 0, .string ⟨#[]⟩] 45)) := ⟨_, rfl⟩
  rw [← hw] at S2 ⊢
  clear hw
  go_wp2_with fail
  go_at_call 57
  refine (Sd.new_s S2.out _ _ _ hl hby).mono ?_
  rintro e w2 ⟨c, rfl, hS⟩
  have S3 := Lib.hid (show Sl.Sep W _ [L4.boxR g1 26 #[.string ⟨#[]⟩, .slice none 0 0, .int .i64 0], L4.boxR g2 45 #[.bool false, .bool false, .int .i64 0, .int .i64 0, .string ⟨#[]⟩, .int .i64 0, .int .i64 0, .string ⟨#[]⟩], curR W c] from hS)
  clear S2
  clear hS
  have S4 := Lib.hid (show Sl.Sep W _ [curR W c, L4.boxR g1 26 #[.string ⟨#[]⟩, .slice none 0 0, .int .i64 0], L4.boxR g2 45 #[.bool false, .bool false, .int .i64 0, .int .i64 0, .string ⟨#[]⟩, .int .i64 0, .int .i64 0, .string ⟨#[]⟩]] from Bag.take S3.out [2, 0, 1] (by rfl) (by decide))
  clear S3
  have HC := l6Any_q (Run.packR (us := [curR W c]) (vs := [L4.boxR g1 26 #[.string ⟨#[]⟩, .slice none 0 0, .int .i64 0], L4.boxR g2 45 #[.bool false, .bool false, .int .i64 0, .int .i64 0, .string ⟨#[]⟩, .int .i64 0, .int .i64 0, .string ⟨#[]⟩]]) S4.out)
  go_wp2_with fail
  go_at_call 80
  refine HC.mono ?_
  clear HC
  rintro e w3 ⟨y, rfl, hF, hS⟩
  have HF := Lib.hid hF
  clear hF
  have S5 := Lib.hid (show Sl.Sep W _ [curR W c, Bag.bag y.rows, L4.boxR g1 26 #[.string ⟨#[]⟩, .slice none 0 0, .int .i64 0], L4.boxR g2 45 #[.bool false, .bool false, .int .i64 0, .int .i64 0, .string ⟨#[]⟩, .int .i64 0, .int .i64 0, .string ⟨#[]⟩]] from Run.unpackR (us := [curR W c, Bag.bag y.rows]) (vs := [L4.boxR g1 26 #[.string ⟨#[]⟩, .slice none 0 0, .int .i64 0], L4.boxR g2 45 #[.bool false, .bool false, .int .i64 0, .int .i64 0, .string ⟨#[]⟩, .int .i64 0, .int .i64 0, .string ⟨#[]⟩]]) (Bag.take hS [0, 2, 1] (by rfl) (by decide)))
  clear S4
  clear hS
  dsimp only [LS.v, LS.cells]
  go_upto_region 3 with fail
  have S6 := Lib.hid (show Sl.Sep W _ [curR W c, Bag.bag y.rows, L4.boxR g1 26 #[.string ⟨#[]⟩, .slice none 0 0, .int .i64 0], L4.boxR g2 45 #[.bool false, .bool false, .int .i64 0, .int .i64 0, .string ⟨#[]⟩, .int .i64 0, .int .i64 0, .string ⟨#[]⟩], L4.boxR w3.heap.size 26 #[.string y.name, .slice y.a y.xs.length y.c, .int .i64 y.auto]] from L4.push_box S5.out 26 #[.string y.name, .slice y.a y.xs.length y.c, .int .i64 y.auto] w3.heap.size rfl)
  clear S5
  obtain ⟨g3, hg⟩ : ∃ g', g' = w3.heap.size := ⟨_, rfl⟩
  rw [← hg] at S6 ⊢
  clear hg
  generalize w3.alloc (.cells #[.string y.name, .slice y.a y.xs.length y.c, .int .i64 y.auto] 26) = w4 at S6 ⊢
  refine wp_region_held_drew (S := (fun w' => World.cell? w' ⟨g3, 0, none⟩ = some (.string y.name) ∧ World.cell? w' ⟨g3, 1, none⟩ = some (.slice y.a y.xs.length y.c) ∧ World.cell? w' ⟨g3, 2, none⟩ = some (.int .i64 y.auto))) (by kernel_rfl) ⟨Bag.cell_at S6.out 4 rfl 0 rfl, Bag.cell_at S6.out 4 rfl 1 rfl, Bag.cell_at S6.out 4 rfl 2 rfl⟩ (fun hS => ?_)
  have S7 := Lib.hid (show Sl.Sep W _ [curR W c, Bag.bag y.rows, L4.boxR g1 26 #[.string ⟨#[]⟩, .slice none 0 0, .int .i64 0], L4.boxR g2 45 #[.bool false, .bool false, .int .i64 0, .int .i64 0, .string ⟨#[]⟩, .int .i64 0, .int .i64 0, .string ⟨#[]⟩], L4.boxR g3 26 #[.string y.name, .slice y.a y.xs.length y.c, .int .i64 y.auto]] from Bag.drew1 S6.out)
  clear S6
  generalize World.drew _ = w5 at hS S7 ⊢
  refine tk 0 rfl ?_
  try simp only [zp0, zp1, zp2, zp3, zp4]
  refine tk 1 rfl ?_
  try simp only [zp0, zp1, zp2, zp3, zp4]
  refine Reg.one_op (i := 2) rfl (by kernel_rfl) (fun K hK => ?_)
  go_simp
  go_at_call 81
  refine (Sd.range_s S7.out 0 rfl).mono ?_
  rintro e w6 ⟨⟨rl, rh, ⟨lk, ln, lt⟩, ⟨gk, gn, gt⟩⟩, rfl, hr, hS⟩
  have S8 := Lib.hid (show Sl.Sep W _ [curR W c, Bag.bag y.rows, L4.boxR g1 26 #[.string ⟨#[]⟩, .slice none 0 0, .int .i64 0], L4.boxR g2 45 #[.bool false, .bool false, .int .i64 0, .int .i64 0, .string ⟨#[]⟩, .int .i64 0, .int .i64 0, .string ⟨#[]⟩], L4.boxR g3 26 #[.string y.name, .slice y.a y.xs.length y.c, .int .i64 y.auto]] from hS)
  clear S7
  clear hS
  try dsimp only [L4.K.v, L4.R.v]
  have HR := Lib.hid hr
  clear hr
  go_wp2_with fail
  refine hK.out _ _ ⟨Bag.cell_at S8.out 4 rfl 0 rfl, Bag.cell_at S8.out 4 rfl 1 rfl, Bag.cell_at S8.out 4 rfl 2 rfl⟩ (fun hS => ?_)
  clear hK K
  try simp only [zp0, zp1, zp2, zp3, zp4]
  refine Reg.one_op (i := 3) rfl (by kernel_rfl) (fun K hK => ?_)
  have f0 : World.cell? _ ⟨g1, 0, none⟩ = some (.string ⟨#[]⟩) := Bag.cell_at S8.out 2 rfl 0 rfl
  have f1 : World.cell? _ ⟨g1, 1, none⟩ = some (.slice none 0 0) := Bag.cell_at S8.out 2 rfl 1 rfl
  have f2 : World.cell? _ ⟨g1, 2, none⟩ = some (.int .i64 0) := Bag.cell_at S8.out 2 rfl 2 rfl
  have z0 := Bag.free_at S8.out 2 rfl 0
  have z1 := Bag.free_at S8.out 2 rfl 1
  have z2 := Bag.free_at S8.out 2 rfl 2
  go_simp
  clear f0 f1 f2 z0 z1 z2
  have S9 := Lib.hid (show Sl.Sep W _ [curR W c, Bag.bag y.rows, L4.boxR g1 26 #[.string y.name, .slice y.a y.xs.length y.c, .int .i64 y.auto], L4.boxR g2 45 #[.bool false, .bool false, .int .i64 0, .int .i64 0, .string ⟨#[]⟩, .int .i64 0, .int .i64 0, .string ⟨#[]⟩], L4.boxR g3 26 #[.string y.name, .slice y.a y.xs.length y.c, .int .i64 y.auto]] from L5.put_box5 (L5.put_box5 (L5.put_box5 (S8.out) 2 rfl 0 (.string y.name)) 2 rfl 1 (.slice y.a y.xs.length y.c)) 2 rfl 2 (.int .i64 y.auto))
  clear S8
  refine hK.out _ _ ⟨Bag.cell_at S9.out 4 rfl 0 rfl, Bag.cell_at S9.out 4 rfl 1 rfl, Bag.cell_at S9.out 4 rfl 2 rfl⟩ (fun hS => ?_)
  clear hK K
  try simp only [zp0, zp1, zp2, zp3, zp4]
  refine Reg.one_op (i := 4) rfl (by kernel_rfl) (fun K hK => ?_)
  have f0 : World.cell? _ ⟨g2, 0, none⟩ = some (.bool false) := Bag.cell_at S9.out 3 rfl 0 rfl
  have f1 : World.cell? _ ⟨g2, 1, none⟩ = some (.bool false) := Bag.cell_at S9.out 3 rfl 1 rfl
  have f2 : World.cell? _ ⟨g2, 2, none⟩ = some (.int .i64 0) := Bag.cell_at S9.out 3 rfl 2 rfl
  have f3 : World.cell? _ ⟨g2, 3, none⟩ = some (.int .i64 0) := Bag.cell_at S9.out 3 rfl 3 rfl
  have f4 : World.cell? _ ⟨g2, 4, none⟩ = some (.string ⟨#[]⟩) := Bag.cell_at S9.out 3 rfl 4 rfl
  have f5 : World.cell? _ ⟨g2, 5, none⟩ = some (.int .i64 0) := Bag.cell_at S9.out 3 rfl 5 rfl
  have f6 : World.cell? _ ⟨g2, 6, none⟩ = some (.int .i64 0) := Bag.cell_at S9.out 3 rfl 6 rfl
  have f7 : World.cell? _ ⟨g2, 7, none⟩ = some (.string ⟨#[]⟩) := Bag.cell_at S9.out 3 rfl 7 rfl
  have z0 := Bag.free_at S9.out 3 rfl 0
  have z1 := Bag.free_at S9.out 3 rfl 1
  have z2 := Bag.free_at S9.out 3 rfl 2
  have z3 := Bag.free_at S9.out 3 rfl 3
  have z4 := Bag.free_at S9.out 3 rfl 4
  have z5 := Bag.free_at S9.out 3 rfl 5
  have z6 := Bag.free_at S9.out 3 rfl 6
  have z7 := Bag.free_at S9.out 3 rfl 7
  go_simp
  clear f0 f1 f2 f3 f4 f5 f6 f7 z0 z1 z2 z3 z4 z5 z6 z7
  have S10 := Lib.hid (show Sl.Sep W _ [curR W c, Bag.bag y.rows, L4.boxR g1 26 #[.string y.name, .slice y.a y.xs.length y.c, .int .i64 y.auto], L4.boxR g2 45 #[.bool rl, .bool rh, .int .i64 lk, .int .i64 ln, .string lt, .int .i64 gk, .int .i64 gn, .string gt], L4.boxR g3 26 #[.string y.name, .slice y.a y.xs.length y.c, .int .i64 y.auto]] from L5.put_box5 (L5.put_box5 (L5.put_box5 (L5.put_box5 (L5.put_box5 (L5.put_box5 (L5.put_box5 (L5.put_box5 (S9.out) 3 rfl 0 (.bool rl)) 3 rfl 1 (.bool rh)) 3 rfl 2 (.int .i64 lk)) 3 rfl 3 (.int .i64 ln)) 3 rfl 4 (.string lt)) 3 rfl 5 (.int .i64 gk)) 3 rfl 6 (.int .i64 gn)) 3 rfl 7 (.string gt))
  clear S9
  refine hK.out _ _ ⟨Bag.cell_at S10.out 4 rfl 0 rfl, Bag.cell_at S10.out 4 rfl 1 rfl, Bag.cell_at S10.out 4 rfl 2 rfl⟩ (fun hS => ?_)
  clear hK K
  try simp only [zp0, zp1, zp2, zp3, zp4]
  refine wpAnyH_done (by kernel_rfl) ?_ _
  have f0 : World.cell? _ ⟨g1, 0, none⟩ = some (.string y.name) := Bag.cell_at S10.out 2 rfl 0 rfl
  have f1 : World.cell? _ ⟨g1, 1, none⟩ = some (.slice y.a y.xs.length y.c) := Bag.cell_at S10.out 2 rfl 1 rfl
  have f2 : World.cell? _ ⟨g1, 2, none⟩ = some (.int .i64 y.auto) := Bag.cell_at S10.out 2 rfl 2 rfl
  have f3 : World.cell? _ ⟨g2, 0, none⟩ = some (.bool rl) := Bag.cell_at S10.out 3 rfl 0 rfl
  have f4 : World.cell? _ ⟨g2, 1, none⟩ = some (.bool rh) := Bag.cell_at S10.out 3 rfl 1 rfl
  have f5 : World.cell? _ ⟨g2, 2, none⟩ = some (.int .i64 lk) := Bag.cell_at S10.out 3 rfl 2 rfl
  have f6 : World.cell? _ ⟨g2, 3, none⟩ = some (.int .i64 ln) := Bag.cell_at S10.out 3 rfl 3 rfl
  have f7 : World.cell? _ ⟨g2, 4, none⟩ = some (.string lt) := Bag.cell_at S10.out 3 rfl 4 rfl
  have f8 : World.cell? _ ⟨g2, 5, none⟩ = some (.int .i64 gk) := Bag.cell_at S10.out 3 rfl 5 rfl
  have f9 : World.cell? _ ⟨g2, 6, none⟩ = some (.int .i64 gn) := Bag.cell_at S10.out 3 rfl 6 rfl
  have f10 : World.cell? _ ⟨g2, 7, none⟩ = some (.string gt) := Bag.cell_at S10.out 3 rfl 7 rfl
  have f11 : World.cell? _ ⟨g3, 0, none⟩ = some (.string y.name) := Bag.cell_at S10.out 4 rfl 0 rfl
  have f12 : World.cell? _ ⟨g3, 1, none⟩ = some (.slice y.a y.xs.length y.c) := Bag.cell_at S10.out 4 rfl 1 rfl
  have f13 : World.cell? _ ⟨g3, 2, none⟩ = some (.int .i64 y.auto) := Bag.cell_at S10.out 4 rfl 2 rfl
  clear f0 f1 f2 f3 f4 f5 f6 f7 f8 f9 f10 f11 f12 f13
  have f0 : World.cell? _ ⟨g1, 0, none⟩ = some (.string y.name) := Bag.cell_at S10.out 2 rfl 0 rfl
  have f1 : World.cell? _ ⟨g1, 1, none⟩ = some (.slice y.a y.xs.length y.c) := Bag.cell_at S10.out 2 rfl 1 rfl
  have f2 : World.cell? _ ⟨g1, 2, none⟩ = some (.int .i64 y.auto) := Bag.cell_at S10.out 2 rfl 2 rfl
  have f3 : World.cell? _ ⟨g2, 0, none⟩ = some (.bool rl) := Bag.cell_at S10.out 3 rfl 0 rfl
  have f4 : World.cell? _ ⟨g2, 1, none⟩ = some (.bool rh) := Bag.cell_at S10.out 3 rfl 1 rfl
  have f5 : World.cell? _ ⟨g2, 2, none⟩ = some (.int .i64 lk) := Bag.cell_at S10.out 3 rfl 2 rfl
  have f6 : World.cell? _ ⟨g2, 3, none⟩ = some (.int .i64 ln) := Bag.cell_at S10.out 3 rfl 3 rfl
  have f7 : World.cell? _ ⟨g2, 4, none⟩ = some (.string lt) := Bag.cell_at S10.out 3 rfl 4 rfl
  have f8 : World.cell? _ ⟨g2, 5, none⟩ = some (.int .i64 gk) := Bag.cell_at S10.out 3 rfl 5 rfl
  have f9 : World.cell? _ ⟨g2, 6, none⟩ = some (.int .i64 gn) := Bag.cell_at S10.out 3 rfl 6 rfl
  have f10 : World.cell? _ ⟨g2, 7, none⟩ = some (.string gt) := Bag.cell_at S10.out 3 rfl 7 rfl
  go_wp2_with fail
  refine bodyPost_ret (v := .tuple #[.agg #[.string y.name, .slice y.a y.xs.length y.c, .int .i64 y.auto], .agg #[.bool rl, .bool rh, .int .i64 lk, .int .i64 ln, .string lt, .int .i64 gk, .int .i64 gn, .string gt]]) (by simp [results, Try.results25, go_sem, *]) rfl ?_
  clear f0 f1 f2 f3 f4 f5 f6 f7 f8 f9 f10
  have S11 := Lib.hid (show Sl.Sep W _ [Bag.bag y.rows] from Bag.take S10.out [1] (by rfl) (by decide))
  clear S10
  exact ⟨y, ⟨rl, rh, ⟨lk, ln, lt⟩, ⟨gk, gn, gt⟩⟩, rfl, HF.out, HR.out, S11.out⟩
end Go.Proofs.Ytkfejjoehgipmaa.L6
