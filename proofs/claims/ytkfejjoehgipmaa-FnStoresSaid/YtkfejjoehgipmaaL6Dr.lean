/-
  The contracts of chapter 6's drawn stores of the specification: l6Store, l6Any. No condition but the cursor's. (Written by my program gen_l6r.py.)
-/
import Derived.Test.YtkfejjoehgipmaaTk
import Derived.Test.YtkfejjoehgipmaaL6Dm
import Derived.Test.YtkfejjoehgipmaaL6Sx
import Derived.Test.YtkfejjoehgipmaaSd9
import Derived.Test.YtkfejjoehgipmaaSd6
import Derived.Test.YtkfejjoehgipmaaRst
namespace Go.Proofs.Ytkfejjoehgipmaa.L6
set_option maxRecDepth 100000
open L4 (K isK cmpK R inR encU)
open L5 (F isR isN cellsF encR eqR Small Tame)
open Sd (curR)
open Go.ChangeShapes Go.WideShapes Go.ChangeAt Go.RowKit Mem Sl Ex L2 Sv Bag
set_option linter.unusedVariables false
set_option linter.unusedSimpArgs false

theorem fitI_of {k : K} {l : List F} (hk : k.text.size ≤ 1099511627776) (hl : Tame l 1000) : FitI ⟨k, l⟩ := ⟨hk, by have := hl.1; show l.length ≤ _; omega, hl.2⟩

set_option maxHeartbeats 16000000 in
theorem l6Store_q {W w : World} {Q : Res} {c : Nat} (nm : ByteArray) (hn : isN nm.data.toList = true) (hn2 : nm.size ≤ 281474976710656) (h : Sl.Sep W w [curR W c, Q]) :
    Calls Try.prog 121 #[.pointer (some ⟨c, 0, none⟩), .string nm] w fun e w' => ∃ y : LS, e = .returned y.v ∧ Nice y.con 256 ∧ Sl.Sep W w' [curR W c, Q, bag y.rows] := by
  have S1 := Lib.hid h
  have HNM := Lib.hid (And.intro hn hn2)
  clear h
  go_enter Try.func121, Try.ntmps121
  go_upto_region 1 with fail
  have S2 := Lib.hid (show Sl.Sep W _ [curR W c, Q, L4.boxR w.heap.size 26 #[.string ⟨#[]⟩, .slice none 0 0, .int .i64 0]] from L4.push_box S1.out 26 #[.string ⟨#[]⟩, .slice none 0 0, .int .i64 0] w.heap.size rfl)
  clear S1
  obtain ⟨g1, hg⟩ : ∃ g', g' = w.heap.size := ⟨_, rfl⟩
  rw [← hg] at S2 ⊢
  clear hg
  generalize w.alloc (.cells #[.string ⟨#[]⟩, .slice none 0 0, .int .i64 0] 26) = w1 at S2 ⊢
  go_upto_region 2 with fail
  have S3 := Lib.hid (show Sl.Sep W _ [curR W c, Q, L4.boxR g1 26 #[.string ⟨#[]⟩, .slice none 0 0, .int .i64 0], L4.boxR w1.heap.size 26 #[.string nm, .slice none 0 0, .int .i64 0]] from L4.push_box S2.out 26 #[.string nm, .slice none 0 0, .int .i64 0] w1.heap.size rfl)
  clear S2
  obtain ⟨g2, hg⟩ : ∃ g', g' = w1.heap.size := ⟨_, rfl⟩
  rw [← hg] at S3 ⊢
  clear hg
  generalize w1.alloc (.cells #[.string nm, .slice none 0 0, .int .i64 0] 26) = w2 at S3 ⊢
  have S4 := Lib.hid (show Sl.Sep W _ [curR W c, Q, L4.boxR g1 26 #[.string ⟨#[]⟩, .slice none 0 0, .int .i64 0], L4.boxR g2 26 #[.string nm, .slice none 0 0, .int .i64 0], Bag.bag ((LS.mk nm none 0 [] 0).rows)] from Bag.push_bag S3.out (Below.refl _ _) (Bag.BagOwn.one (OwnV.nil _ _ _ _)))
  clear S3
  go_wp2_with fail
  go_at_call 108
  refine (Sd.int_sg S4.out 0 rfl [0, 2, 4, 6] (fun n => 0 ≤ n ∧ n ≤ 6) (by decide) 4 rfl (by decide) (by decide) _ rfl).mono ?_
  rintro e w3 ⟨n0, rfl, hn0, hS⟩
  have S5 := Lib.hid (show Sl.Sep W _ [curR W c, Q, L4.boxR g1 26 #[.string ⟨#[]⟩, .slice none 0 0, .int .i64 0], L4.boxR g2 26 #[.string nm, .slice none 0 0, .int .i64 0], Bag.bag ((LS.mk nm none 0 [] 0).rows)] from hS)
  clear S4
  clear hS
  try dsimp only [L4.K.v, L4.R.v, LS.v, LS.cells]
  obtain ⟨hn0, hn1⟩ := hn0
  go_wp2_with fail
  go_loopw [6] (fun i wr => ∃ (n : Int) (y : LS), i = .int .i64 n ∧ 0 ≤ n ∧ n ≤ 6 ∧ Hid (Nice y.con 256 ∧ Sl.Sep W wr [curR W c, Q, L4.boxR g1 26 #[.string ⟨#[]⟩, .slice none 0 0, .int .i64 0], L4.boxR g2 26 #[.string y.name, .slice y.a y.xs.length y.c, .int .i64 y.auto], Bag.bag y.rows])) (fun i _ => (intOf i).toNat)
  case atStart => exact ⟨n0, ⟨nm, none, 0, [], 0⟩, rfl, hn0, hn1, And.intro (Nice.start HNM.out.1 HNM.out.2) S5.out⟩
  case round =>
    obtain ⟨n, y, rfl, hn0, hn1, hrel⟩ := hrel
    have HN := Lib.hid hrel.out.1
    have S6 := Lib.hid hrel.out.2
    clear hrel S5
    by_cases hlt : 0 < n
    · skip
      go_upto_region 5 with fail
      refine Reg.wp_region_late (fun w' => True) (fun w' => World.cell? w' ⟨g2, 0, none⟩ = some (.string y.name) ∧ World.cell? w' ⟨g2, 1, none⟩ = some (.slice y.a y.xs.length y.c) ∧ World.cell? w' ⟨g2, 2, none⟩ = some (.int .i64 y.auto)) 9 (by kernel_rfl) trivial ⟨Bag.cell_at S6.out 3 rfl 0 rfl, Bag.cell_at S6.out 3 rfl 1 rfl, Bag.cell_at S6.out 3 rfl 2 rfl⟩ (fun hS hL => ?_)
      have S7 := Lib.hid (show Sl.Sep W _ [curR W c, Q, L4.boxR g1 26 #[.string ⟨#[]⟩, .slice none 0 0, .int .i64 0], L4.boxR g2 26 #[.string y.name, .slice y.a y.xs.length y.c, .int .i64 y.auto], Bag.bag y.rows] from Bag.drew1 S6.out)
      clear S6
      generalize World.drew _ = w4 at hS hL S7 ⊢
      refine Reg.early_op (i := 0) (v := ?_) rfl (by kernel_rfl) (by kernel_rfl) (by kernel_rfl) rfl (by kernel_rfl) (by kernel_rfl) (fun _ _ _ h => h) (by rfl) ?_ hS hL ?_
      rotate_left
      · (intro w hSw hSv; (try dsimp only at hSw); (try dsimp only at hSv); go_simp; try with_reducible rfl)
      try simp only [zp0, zp1, zp2, zp3, zp4]
      refine Reg.early_op (i := 1) (v := ?_) rfl (by kernel_rfl) (by kernel_rfl) (by kernel_rfl) rfl (by kernel_rfl) (by kernel_rfl) (fun _ _ _ h => h) (by rfl) ?_ hS hL ?_
      rotate_left
      · (intro w hSw hSv; (try dsimp only at hSw); (try dsimp only at hSv); go_simp; try with_reducible rfl)
      try simp only [zp0, zp1, zp2, zp3, zp4]
      refine Reg.early_op (i := 3) (v := ?_) rfl (by kernel_rfl) (by kernel_rfl) (by kernel_rfl) rfl (by kernel_rfl) (by kernel_rfl) (fun _ _ _ h => h) (by rfl) ?_ hS hL ?_
      rotate_left
      · (intro w hSw hSv; (try dsimp only at hSw); (try dsimp only at hSv); go_simp; try with_reducible rfl)
      try simp only [zp0, zp1, zp2, zp3, zp4]
      refine Reg.only_op (i := 2) rfl (by kernel_rfl) (fun K hK => ?_)
      go_simp
      go_at_call 104
      refine (Sd.small_n S7.out 0 rfl).mono ?_
      rintro e w5 ⟨k, rfl, hk, hS⟩
      have S8 := Lib.hid (show Sl.Sep W _ [curR W c, Q, L4.boxR g1 26 #[.string ⟨#[]⟩, .slice none 0 0, .int .i64 0], L4.boxR g2 26 #[.string y.name, .slice y.a y.xs.length y.c, .int .i64 y.auto], Bag.bag y.rows] from hS)
      clear S7
      clear hS
      try dsimp only [L4.K.v, L4.R.v, LS.v, LS.cells]
      have HK := Lib.hid hk
      clear hk
      go_wp2_with fail
      clear hL
      refine hK.out _ _ trivial ⟨Bag.cell_at S8.out 3 rfl 0 rfl, Bag.cell_at S8.out 3 rfl 1 rfl, Bag.cell_at S8.out 3 rfl 2 rfl⟩ (fun hS hL => ?_)
      clear hK K
      try simp only [zp0, zp1, zp2, zp3, zp4]
      refine Reg.only_op (i := 4) rfl (by kernel_rfl) (fun K hK => ?_)
      go_simp
      go_at_call 105
      refine (L5.rec_s S8.out 0 rfl).mono ?_
      rintro e w6 ⟨A, C, l, rfl, hl, hS⟩
      have S9 := Lib.hid (show Sl.Sep W _ [curR W c, Q, L4.boxR g1 26 #[.string ⟨#[]⟩, .slice none 0 0, .int .i64 0], L4.boxR g2 26 #[.string y.name, .slice y.a y.xs.length y.c, .int .i64 y.auto], Bag.bag y.rows, Sv.ownV 102 2 A C l.length (cellsF l)] from hS)
      clear S8
      clear hS
      try dsimp only [L4.K.v, L4.R.v, LS.v, LS.cells]
      have HL := Lib.hid hl
      clear hl
      go_wp2_with fail
      clear hL
      refine hK.out _ _ trivial ⟨Bag.cell_at S9.out 3 rfl 0 rfl, Bag.cell_at S9.out 3 rfl 1 rfl, Bag.cell_at S9.out 3 rfl 2 rfl⟩ (fun hS hL => ?_)
      clear hK K
      try simp only [zp0, zp1, zp2, zp3, zp4]
      refine Reg.only_op (i := 5) rfl (by kernel_rfl) (fun K hK => ?_)
      go_simp
      have HC := specPutItem_any y k A C l HN.out.fit (by have := HK.out.2.1; omega) (by have := HL.out.1; omega) HL.out.2 _ (Bag.bag_rd S9.out 4 rfl) (Sv.own_at S9.out 5 rfl).reads
      dsimp only [LS.v, LS.cells, L4.K.v] at HC
      go_at_call 18
      refine HC.mono ?_
      clear HC
      rintro e w7 ⟨z, rfl, hcon, ho, hb⟩
      have S10 := Lib.hid (show Sl.Sep W _ [curR W c, Q, L4.boxR g1 26 #[.string ⟨#[]⟩, .slice none 0 0, .int .i64 0], L4.boxR g2 26 #[.string y.name, .slice y.a y.xs.length y.c, .int .i64 y.auto], Bag.bag y.rows, Sv.ownV 102 2 A C l.length (cellsF l), Bag.bag z.rows] from Bag.push_bag S9.out hb ho)
      clear S9
      clear ho hb
      try dsimp only [LS.v, LS.cells]
      have HZ := Lib.hid (show Nice z.con 256 from by rw [hcon]; exact HN.out.put HK.out.2.2 (fitI_of (by have := HK.out.2.1; omega) (HL.out.mono (by omega))))
      clear hcon
      go_wp2_with fail
      clear hL
      refine hK.out _ _ trivial ⟨Bag.cell_at S10.out 3 rfl 0 rfl, Bag.cell_at S10.out 3 rfl 1 rfl, Bag.cell_at S10.out 3 rfl 2 rfl⟩ (fun hS hL => ?_)
      clear hK K
      try simp only [zp0, zp1, zp2, zp3, zp4]
      refine Reg.early_op (i := 6) (v := ?_) rfl (by kernel_rfl) (by kernel_rfl) (by kernel_rfl) rfl (by kernel_rfl) (by kernel_rfl) (fun _ _ _ h => h) (by rfl) ?_ hS hL ?_
      rotate_left
      · (intro w hSw hSv; (try dsimp only at hSw); (try dsimp only at hSv); go_simp; try with_reducible rfl)
      try simp only [zp0, zp1, zp2, zp3, zp4]
      refine Reg.early_op (i := 7) (v := ?_) rfl (by kernel_rfl) (by kernel_rfl) (by kernel_rfl) rfl (by kernel_rfl) (by kernel_rfl) (fun _ _ _ h => h) (by rfl) ?_ hS hL ?_
      rotate_left
      · (intro w hSw hSv; (try dsimp only at hSw); (try dsimp only at hSv); go_simp; try with_reducible rfl)
      try simp only [zp0, zp1, zp2, zp3, zp4]
      refine Reg.plain_op (i := 8) (v := ?_) rfl (by kernel_rfl) (by kernel_rfl) (by kernel_rfl) rfl (fun _ _ _ h => h) (by rfl) ?_ hS (fun _ => hL) ?_
      rotate_left
      · (intro w hSw; (try dsimp only at hSw); go_simp; try with_reducible rfl)
      try simp only [zp0, zp1, zp2, zp3, zp4]
      refine Reg.late_op (i := 9) rfl (by kernel_rfl) rfl (fun K hK => ?_)
      have f0 : World.cell? _ ⟨g2, 0, none⟩ = some (.string y.name) := Bag.cell_at S10.out 3 rfl 0 rfl
      have f1 : World.cell? _ ⟨g2, 1, none⟩ = some (.slice y.a y.xs.length y.c) := Bag.cell_at S10.out 3 rfl 1 rfl
      have f2 : World.cell? _ ⟨g2, 2, none⟩ = some (.int .i64 y.auto) := Bag.cell_at S10.out 3 rfl 2 rfl
      have z0 := Bag.free_at S10.out 3 rfl 0
      have z1 := Bag.free_at S10.out 3 rfl 1
      have z2 := Bag.free_at S10.out 3 rfl 2
      go_simp
      clear f0 f1 f2 z0 z1 z2
      have S11 := Lib.hid (show Sl.Sep W _ [curR W c, Q, L4.boxR g1 26 #[.string ⟨#[]⟩, .slice none 0 0, .int .i64 0], L4.boxR g2 26 #[.string z.name, .slice z.a z.xs.length z.c, .int .i64 z.auto], Bag.bag y.rows, Sv.ownV 102 2 A C l.length (cellsF l), Bag.bag z.rows] from L5.put_box5 (L5.put_box5 (L5.put_box5 (S10.out) 3 rfl 0 (.string z.name)) 3 rfl 1 (.slice z.a z.xs.length z.c)) 3 rfl 2 (.int .i64 z.auto))
      clear S10
      refine hK.out _ _ trivial (fun hS => ?_)
      clear hL
      clear hK K
      try simp only [zp0, zp1, zp2, zp3, zp4]
      refine Reg.anyL_done (by kernel_rfl) ?_ _
      have f0 : World.cell? _ ⟨g1, 0, none⟩ = some (.string ⟨#[]⟩) := Bag.cell_at S11.out 2 rfl 0 rfl
      have f1 : World.cell? _ ⟨g1, 1, none⟩ = some (.slice none 0 0) := Bag.cell_at S11.out 2 rfl 1 rfl
      have f2 : World.cell? _ ⟨g1, 2, none⟩ = some (.int .i64 0) := Bag.cell_at S11.out 2 rfl 2 rfl
      have f3 : World.cell? _ ⟨g2, 0, none⟩ = some (.string z.name) := Bag.cell_at S11.out 3 rfl 0 rfl
      have f4 : World.cell? _ ⟨g2, 1, none⟩ = some (.slice z.a z.xs.length z.c) := Bag.cell_at S11.out 3 rfl 1 rfl
      have f5 : World.cell? _ ⟨g2, 2, none⟩ = some (.int .i64 z.auto) := Bag.cell_at S11.out 3 rfl 2 rfl
      clear f0 f1 f2 f3 f4 f5
      have S12 := Lib.hid (show Sl.Sep W _ [curR W c, Q, L4.boxR g1 26 #[.string ⟨#[]⟩, .slice none 0 0, .int .i64 0], L4.boxR g2 26 #[.string z.name, .slice z.a z.xs.length z.c, .int .i64 z.auto], Bag.bag z.rows] from Bag.take S11.out [0, 1, 2, 3, 6] (by rfl) (by decide))
      clear S11
      go_wp2_with fail
      go_roundw
      case rel => exact ⟨n - 1, z, by go_num, by omega, by omega, And.intro HZ.out S12.out⟩
      case measure => simp [intOf]; omega
    · skip
      go_wp2_with fail
      go_at_call 102
      refine (Sd.once_s S6.out 0 rfl _ (by decide) (by decide)).mono ?_
      rintro e w4 ⟨b, rfl, hS⟩
      have S7 := Lib.hid (show Sl.Sep W _ [curR W c, Q, L4.boxR g1 26 #[.string ⟨#[]⟩, .slice none 0 0, .int .i64 0], L4.boxR g2 26 #[.string y.name, .slice y.a y.xs.length y.c, .int .i64 y.auto], Bag.bag y.rows] from hS)
      clear S6
      clear hS
      try dsimp only [L4.K.v, L4.R.v, LS.v, LS.cells]
      cases b with
      | false =>
        have f0 : World.cell? _ ⟨g2, 0, none⟩ = some (.string y.name) := Bag.cell_at S7.out 3 rfl 0 rfl
        have f1 : World.cell? _ ⟨g2, 1, none⟩ = some (.slice y.a y.xs.length y.c) := Bag.cell_at S7.out 3 rfl 1 rfl
        have f2 : World.cell? _ ⟨g2, 2, none⟩ = some (.int .i64 y.auto) := Bag.cell_at S7.out 3 rfl 2 rfl
        clear f0 f1 f2
        have f0 : World.cell? _ ⟨g1, 0, none⟩ = some (.string ⟨#[]⟩) := Bag.cell_at S7.out 2 rfl 0 rfl
        have f1 : World.cell? _ ⟨g1, 1, none⟩ = some (.slice none 0 0) := Bag.cell_at S7.out 2 rfl 1 rfl
        have f2 : World.cell? _ ⟨g1, 2, none⟩ = some (.int .i64 0) := Bag.cell_at S7.out 2 rfl 2 rfl
        have f3 : World.cell? _ ⟨g2, 0, none⟩ = some (.string y.name) := Bag.cell_at S7.out 3 rfl 0 rfl
        have f4 : World.cell? _ ⟨g2, 1, none⟩ = some (.slice y.a y.xs.length y.c) := Bag.cell_at S7.out 3 rfl 1 rfl
        have f5 : World.cell? _ ⟨g2, 2, none⟩ = some (.int .i64 y.auto) := Bag.cell_at S7.out 3 rfl 2 rfl
        have z0 := Bag.free_at S7.out 2 rfl 0
        have z1 := Bag.free_at S7.out 2 rfl 1
        have z2 := Bag.free_at S7.out 2 rfl 2
        go_wp2_with fail
        clear f0 f1 f2 f3 f4 f5 z0 z1 z2
        have S8 := Lib.hid (show Sl.Sep W _ [curR W c, Q, L4.boxR g1 26 #[.string y.name, .slice y.a y.xs.length y.c, .int .i64 y.auto], L4.boxR g2 26 #[.string y.name, .slice y.a y.xs.length y.c, .int .i64 y.auto], Bag.bag y.rows] from L5.put_box5 (L5.put_box5 (L5.put_box5 (S7.out) 2 rfl 0 (.string y.name)) 2 rfl 1 (.slice y.a y.xs.length y.c)) 2 rfl 2 (.int .i64 y.auto))
        clear S7
        have f0 : World.cell? _ ⟨g1, 0, none⟩ = some (.string y.name) := Bag.cell_at S8.out 2 rfl 0 rfl
        have f1 : World.cell? _ ⟨g1, 1, none⟩ = some (.slice y.a y.xs.length y.c) := Bag.cell_at S8.out 2 rfl 1 rfl
        have f2 : World.cell? _ ⟨g1, 2, none⟩ = some (.int .i64 y.auto) := Bag.cell_at S8.out 2 rfl 2 rfl
        refine bodyPost_ret (v := .agg #[.string y.name, .slice y.a y.xs.length y.c, .int .i64 y.auto]) (by simp [results, Try.results121, go_sem, *]) rfl ?_
        clear f0 f1 f2
        have S9 := Lib.hid (show Sl.Sep W _ [curR W c, Q, Bag.bag y.rows] from Bag.take S8.out [0, 1, 4] (by rfl) (by decide))
        clear S8
        exact ⟨y, rfl, HN.out, S9.out⟩
      | true =>
        go_upto_region 7 with fail
        refine Reg.wp_region_late (fun w' => True) (fun w' => World.cell? w' ⟨g2, 0, none⟩ = some (.string y.name) ∧ World.cell? w' ⟨g2, 1, none⟩ = some (.slice y.a y.xs.length y.c) ∧ World.cell? w' ⟨g2, 2, none⟩ = some (.int .i64 y.auto)) 9 (by kernel_rfl) trivial ⟨Bag.cell_at S7.out 3 rfl 0 rfl, Bag.cell_at S7.out 3 rfl 1 rfl, Bag.cell_at S7.out 3 rfl 2 rfl⟩ (fun hS hL => ?_)
        have S8 := Lib.hid (show Sl.Sep W _ [curR W c, Q, L4.boxR g1 26 #[.string ⟨#[]⟩, .slice none 0 0, .int .i64 0], L4.boxR g2 26 #[.string y.name, .slice y.a y.xs.length y.c, .int .i64 y.auto], Bag.bag y.rows] from Bag.drew1 S7.out)
        clear S7
        generalize World.drew _ = w5 at hS hL S8 ⊢
        refine Reg.early_op (i := 0) (v := ?_) rfl (by kernel_rfl) (by kernel_rfl) (by kernel_rfl) rfl (by kernel_rfl) (by kernel_rfl) (fun _ _ _ h => h) (by rfl) ?_ hS hL ?_
        rotate_left
        · (intro w hSw hSv; (try dsimp only at hSw); (try dsimp only at hSv); go_simp; try with_reducible rfl)
        try simp only [zp0, zp1, zp2, zp3, zp4]
        refine Reg.early_op (i := 1) (v := ?_) rfl (by kernel_rfl) (by kernel_rfl) (by kernel_rfl) rfl (by kernel_rfl) (by kernel_rfl) (fun _ _ _ h => h) (by rfl) ?_ hS hL ?_
        rotate_left
        · (intro w hSw hSv; (try dsimp only at hSw); (try dsimp only at hSv); go_simp; try with_reducible rfl)
        try simp only [zp0, zp1, zp2, zp3, zp4]
        refine Reg.early_op (i := 3) (v := ?_) rfl (by kernel_rfl) (by kernel_rfl) (by kernel_rfl) rfl (by kernel_rfl) (by kernel_rfl) (fun _ _ _ h => h) (by rfl) ?_ hS hL ?_
        rotate_left
        · (intro w hSw hSv; (try dsimp only at hSw); (try dsimp only at hSv); go_simp; try with_reducible rfl)
        try simp only [zp0, zp1, zp2, zp3, zp4]
        refine Reg.only_op (i := 2) rfl (by kernel_rfl) (fun K hK => ?_)
        go_simp
        go_at_call 129
        refine (Sd.key_n S8.out 0 rfl).mono ?_
        rintro e w6 ⟨k, rfl, hk, hS⟩
        have S9 := Lib.hid (show Sl.Sep W _ [curR W c, Q, L4.boxR g1 26 #[.string ⟨#[]⟩, .slice none 0 0, .int .i64 0], L4.boxR g2 26 #[.string y.name, .slice y.a y.xs.length y.c, .int .i64 y.auto], Bag.bag y.rows] from hS)
        clear S8
        clear hS
        try dsimp only [L4.K.v, L4.R.v, LS.v, LS.cells]
        have HK := Lib.hid hk
        clear hk
        go_wp2_with fail
        clear hL
        refine hK.out _ _ trivial ⟨Bag.cell_at S9.out 3 rfl 0 rfl, Bag.cell_at S9.out 3 rfl 1 rfl, Bag.cell_at S9.out 3 rfl 2 rfl⟩ (fun hS hL => ?_)
        clear hK K
        try simp only [zp0, zp1, zp2, zp3, zp4]
        refine Reg.only_op (i := 4) rfl (by kernel_rfl) (fun K hK => ?_)
        go_simp
        go_at_call 105
        refine (L5.rec_s S9.out 0 rfl).mono ?_
        rintro e w7 ⟨A, C, l, rfl, hl, hS⟩
        have S10 := Lib.hid (show Sl.Sep W _ [curR W c, Q, L4.boxR g1 26 #[.string ⟨#[]⟩, .slice none 0 0, .int .i64 0], L4.boxR g2 26 #[.string y.name, .slice y.a y.xs.length y.c, .int .i64 y.auto], Bag.bag y.rows, Sv.ownV 102 2 A C l.length (cellsF l)] from hS)
        clear S9
        clear hS
        try dsimp only [L4.K.v, L4.R.v, LS.v, LS.cells]
        have HL := Lib.hid hl
        clear hl
        go_wp2_with fail
        clear hL
        refine hK.out _ _ trivial ⟨Bag.cell_at S10.out 3 rfl 0 rfl, Bag.cell_at S10.out 3 rfl 1 rfl, Bag.cell_at S10.out 3 rfl 2 rfl⟩ (fun hS hL => ?_)
        clear hK K
        try simp only [zp0, zp1, zp2, zp3, zp4]
        refine Reg.only_op (i := 5) rfl (by kernel_rfl) (fun K hK => ?_)
        go_simp
        have HC := specPutItem_any y k A C l HN.out.fit (by have := HK.out.2.1; omega) (by have := HL.out.1; omega) HL.out.2 _ (Bag.bag_rd S10.out 4 rfl) (Sv.own_at S10.out 5 rfl).reads
        dsimp only [LS.v, LS.cells, L4.K.v] at HC
        go_at_call 18
        refine HC.mono ?_
        clear HC
        rintro e w8 ⟨z, rfl, hcon, ho, hb⟩
        have S11 := Lib.hid (show Sl.Sep W _ [curR W c, Q, L4.boxR g1 26 #[.string ⟨#[]⟩, .slice none 0 0, .int .i64 0], L4.boxR g2 26 #[.string y.name, .slice y.a y.xs.length y.c, .int .i64 y.auto], Bag.bag y.rows, Sv.ownV 102 2 A C l.length (cellsF l), Bag.bag z.rows] from Bag.push_bag S10.out hb ho)
        clear S10
        clear ho hb
        try dsimp only [LS.v, LS.cells]
        have HZ := Lib.hid (show Nice z.con 256 from by rw [hcon]; exact HN.out.put HK.out.2.2 (fitI_of (by have := HK.out.2.1; omega) (HL.out.mono (by omega))))
        clear hcon
        go_wp2_with fail
        clear hL
        refine hK.out _ _ trivial ⟨Bag.cell_at S11.out 3 rfl 0 rfl, Bag.cell_at S11.out 3 rfl 1 rfl, Bag.cell_at S11.out 3 rfl 2 rfl⟩ (fun hS hL => ?_)
        clear hK K
        try simp only [zp0, zp1, zp2, zp3, zp4]
        refine Reg.early_op (i := 6) (v := ?_) rfl (by kernel_rfl) (by kernel_rfl) (by kernel_rfl) rfl (by kernel_rfl) (by kernel_rfl) (fun _ _ _ h => h) (by rfl) ?_ hS hL ?_
        rotate_left
        · (intro w hSw hSv; (try dsimp only at hSw); (try dsimp only at hSv); go_simp; try with_reducible rfl)
        try simp only [zp0, zp1, zp2, zp3, zp4]
        refine Reg.early_op (i := 7) (v := ?_) rfl (by kernel_rfl) (by kernel_rfl) (by kernel_rfl) rfl (by kernel_rfl) (by kernel_rfl) (fun _ _ _ h => h) (by rfl) ?_ hS hL ?_
        rotate_left
        · (intro w hSw hSv; (try dsimp only at hSw); (try dsimp only at hSv); go_simp; try with_reducible rfl)
        try simp only [zp0, zp1, zp2, zp3, zp4]
        refine Reg.plain_op (i := 8) (v := ?_) rfl (by kernel_rfl) (by kernel_rfl) (by kernel_rfl) rfl (fun _ _ _ h => h) (by rfl) ?_ hS (fun _ => hL) ?_
        rotate_left
        · (intro w hSw; (try dsimp only at hSw); go_simp; try with_reducible rfl)
        try simp only [zp0, zp1, zp2, zp3, zp4]
        refine Reg.late_op (i := 9) rfl (by kernel_rfl) rfl (fun K hK => ?_)
        have f0 : World.cell? _ ⟨g2, 0, none⟩ = some (.string y.name) := Bag.cell_at S11.out 3 rfl 0 rfl
        have f1 : World.cell? _ ⟨g2, 1, none⟩ = some (.slice y.a y.xs.length y.c) := Bag.cell_at S11.out 3 rfl 1 rfl
        have f2 : World.cell? _ ⟨g2, 2, none⟩ = some (.int .i64 y.auto) := Bag.cell_at S11.out 3 rfl 2 rfl
        have z0 := Bag.free_at S11.out 3 rfl 0
        have z1 := Bag.free_at S11.out 3 rfl 1
        have z2 := Bag.free_at S11.out 3 rfl 2
        go_simp
        clear f0 f1 f2 z0 z1 z2
        have S12 := Lib.hid (show Sl.Sep W _ [curR W c, Q, L4.boxR g1 26 #[.string ⟨#[]⟩, .slice none 0 0, .int .i64 0], L4.boxR g2 26 #[.string z.name, .slice z.a z.xs.length z.c, .int .i64 z.auto], Bag.bag y.rows, Sv.ownV 102 2 A C l.length (cellsF l), Bag.bag z.rows] from L5.put_box5 (L5.put_box5 (L5.put_box5 (S11.out) 3 rfl 0 (.string z.name)) 3 rfl 1 (.slice z.a z.xs.length z.c)) 3 rfl 2 (.int .i64 z.auto))
        clear S11
        refine hK.out _ _ trivial (fun hS => ?_)
        clear hL
        clear hK K
        try simp only [zp0, zp1, zp2, zp3, zp4]
        refine Reg.anyL_done (by kernel_rfl) ?_ _
        have f0 : World.cell? _ ⟨g1, 0, none⟩ = some (.string ⟨#[]⟩) := Bag.cell_at S12.out 2 rfl 0 rfl
        have f1 : World.cell? _ ⟨g1, 1, none⟩ = some (.slice none 0 0) := Bag.cell_at S12.out 2 rfl 1 rfl
        have f2 : World.cell? _ ⟨g1, 2, none⟩ = some (.int .i64 0) := Bag.cell_at S12.out 2 rfl 2 rfl
        have f3 : World.cell? _ ⟨g2, 0, none⟩ = some (.string z.name) := Bag.cell_at S12.out 3 rfl 0 rfl
        have f4 : World.cell? _ ⟨g2, 1, none⟩ = some (.slice z.a z.xs.length z.c) := Bag.cell_at S12.out 3 rfl 1 rfl
        have f5 : World.cell? _ ⟨g2, 2, none⟩ = some (.int .i64 z.auto) := Bag.cell_at S12.out 3 rfl 2 rfl
        clear f0 f1 f2 f3 f4 f5
        have S13 := Lib.hid (show Sl.Sep W _ [curR W c, Q, L4.boxR g1 26 #[.string ⟨#[]⟩, .slice none 0 0, .int .i64 0], L4.boxR g2 26 #[.string z.name, .slice z.a z.xs.length z.c, .int .i64 z.auto], Bag.bag z.rows] from Bag.take S12.out [0, 1, 2, 3, 6] (by rfl) (by decide))
        clear S12
        have f0 : World.cell? _ ⟨g2, 0, none⟩ = some (.string z.name) := Bag.cell_at S13.out 3 rfl 0 rfl
        have f1 : World.cell? _ ⟨g2, 1, none⟩ = some (.slice z.a z.xs.length z.c) := Bag.cell_at S13.out 3 rfl 1 rfl
        have f2 : World.cell? _ ⟨g2, 2, none⟩ = some (.int .i64 z.auto) := Bag.cell_at S13.out 3 rfl 2 rfl
        clear f0 f1 f2
        have f0 : World.cell? _ ⟨g1, 0, none⟩ = some (.string ⟨#[]⟩) := Bag.cell_at S13.out 2 rfl 0 rfl
        have f1 : World.cell? _ ⟨g1, 1, none⟩ = some (.slice none 0 0) := Bag.cell_at S13.out 2 rfl 1 rfl
        have f2 : World.cell? _ ⟨g1, 2, none⟩ = some (.int .i64 0) := Bag.cell_at S13.out 2 rfl 2 rfl
        have f3 : World.cell? _ ⟨g2, 0, none⟩ = some (.string z.name) := Bag.cell_at S13.out 3 rfl 0 rfl
        have f4 : World.cell? _ ⟨g2, 1, none⟩ = some (.slice z.a z.xs.length z.c) := Bag.cell_at S13.out 3 rfl 1 rfl
        have f5 : World.cell? _ ⟨g2, 2, none⟩ = some (.int .i64 z.auto) := Bag.cell_at S13.out 3 rfl 2 rfl
        have z0 := Bag.free_at S13.out 2 rfl 0
        have z1 := Bag.free_at S13.out 2 rfl 1
        have z2 := Bag.free_at S13.out 2 rfl 2
        go_wp2_with fail
        clear f0 f1 f2 f3 f4 f5 z0 z1 z2
        have S14 := Lib.hid (show Sl.Sep W _ [curR W c, Q, L4.boxR g1 26 #[.string z.name, .slice z.a z.xs.length z.c, .int .i64 z.auto], L4.boxR g2 26 #[.string z.name, .slice z.a z.xs.length z.c, .int .i64 z.auto], Bag.bag z.rows] from L5.put_box5 (L5.put_box5 (L5.put_box5 (S13.out) 2 rfl 0 (.string z.name)) 2 rfl 1 (.slice z.a z.xs.length z.c)) 2 rfl 2 (.int .i64 z.auto))
        clear S13
        have f0 : World.cell? _ ⟨g1, 0, none⟩ = some (.string z.name) := Bag.cell_at S14.out 2 rfl 0 rfl
        have f1 : World.cell? _ ⟨g1, 1, none⟩ = some (.slice z.a z.xs.length z.c) := Bag.cell_at S14.out 2 rfl 1 rfl
        have f2 : World.cell? _ ⟨g1, 2, none⟩ = some (.int .i64 z.auto) := Bag.cell_at S14.out 2 rfl 2 rfl
        refine bodyPost_ret (v := .agg #[.string z.name, .slice z.a z.xs.length z.c, .int .i64 z.auto]) (by simp [results, Try.results121, go_sem, *]) rfl ?_
        clear f0 f1 f2
        have S15 := Lib.hid (show Sl.Sep W _ [curR W c, Q, Bag.bag z.rows] from Bag.take S14.out [0, 1, 4] (by rfl) (by decide))
        clear S14
        exact ⟨z, rfl, HZ.out, S15.out⟩

def lenOf (w : World) (g : Nat) : Nat := match w.cell? ⟨g, 1, none⟩ with
  | some (.slice _ n _) => n
  | _ => 0
theorem lenOf_at {w : World} {g : Nat} {a : Option Addr} {n c : Nat} (h : w.cell? ⟨g, 1, none⟩ = some (.slice a n c)) : lenOf w g = n := by unfold lenOf; rw [h]
theorem Nice.more {s : S6} {b c : Int} (h : Nice s b) (hb : b ≤ c) : Nice s c := ⟨h.valid, h.cov, Int.le_trans h.auto hb, h.fit⟩
theorem small_nil : Small [] := fun f hf => by cases hf

set_option maxHeartbeats 16000000 in
theorem l6Any_q {W w : World} {Q : Res} {c : Nat} (h : Sl.Sep W w [curR W c, Q]) :
    Calls Try.prog 80 #[.pointer (some ⟨c, 0, none⟩)] w fun e w' => ∃ y : LS, e = .returned y.v ∧ FitS y.con ∧ Sl.Sep W w' [curR W c, Q, bag y.rows] := by
  obtain ⟨i0, hi1, hi2, hi3, hi4⟩ := itemInfo
  have HI := Lib.hid (And.intro hi1 (And.intro hi2 (And.intro hi3 hi4)))
  clear hi1 hi2 hi3 hi4
  have S1 := Lib.hid h
  clear h
  go_enter Try.func80, Try.ntmps80
  go_upto_region 1 with fail
  have S2 := Lib.hid (show Sl.Sep W _ [curR W c, Q, L4.boxR w.heap.size 26 #[.string ⟨#[]⟩, .slice none 0 0, .int .i64 0]] from L4.push_box S1.out 26 #[.string ⟨#[]⟩, .slice none 0 0, .int .i64 0] w.heap.size rfl)
  clear S1
  obtain ⟨g1, hg⟩ : ∃ g', g' = w.heap.size := ⟨_, rfl⟩
  rw [← hg] at S2 ⊢
  clear hg
  generalize w.alloc (.cells #[.string ⟨#[]⟩, .slice none 0 0, .int .i64 0] 26) = w1 at S2 ⊢
  have HC := l6Store_q ⟨#[110, 111, 116, 101, 115]⟩ (by decide) (by decide) (Run.packR (us := [curR W c]) (vs := [Q, L4.boxR g1 26 #[.string ⟨#[]⟩, .slice none 0 0, .int .i64 0]]) S2.out)
  go_wp2_with fail
  go_at_call 121
  refine HC.mono ?_
  clear HC
  rintro e w2 ⟨y, rfl, hN, hS⟩
  have HN := Lib.hid hN
  clear hN
  have hlen : y.xs.length ≤ 16 := by have := (isS_iff.1 HN.out.valid).2.2.1; simpa [LS.con] using this
  have S3 := Lib.hid (show Sl.Sep W _ [curR W c, Bag.bag y.rows, Q, L4.boxR g1 26 #[.string ⟨#[]⟩, .slice none 0 0, .int .i64 0]] from Run.unpackR (us := [curR W c, Bag.bag y.rows]) (vs := [Q, L4.boxR g1 26 #[.string ⟨#[]⟩, .slice none 0 0, .int .i64 0]]) (Bag.take hS [0, 2, 1] (by rfl) (by decide)))
  clear S2
  clear hS
  dsimp only [LS.v, LS.cells]
  go_upto_region 2 with fail
  have S4 := Lib.hid (show Sl.Sep W _ [curR W c, Bag.bag y.rows, Q, L4.boxR g1 26 #[.string ⟨#[]⟩, .slice none 0 0, .int .i64 0], L4.boxR w2.heap.size 26 #[.string y.name, .slice y.a y.xs.length y.c, .int .i64 y.auto]] from L4.push_box S3.out 26 #[.string y.name, .slice y.a y.xs.length y.c, .int .i64 y.auto] w2.heap.size rfl)
  clear S3
  obtain ⟨g2, hg⟩ : ∃ g', g' = w2.heap.size := ⟨_, rfl⟩
  rw [← hg] at S4 ⊢
  clear hg
  generalize w2.alloc (.cells #[.string y.name, .slice y.a y.xs.length y.c, .int .i64 y.auto] 26) = w3 at S4 ⊢
  have S5 := Lib.hid (show Sl.Sep W _ [curR W c, Q, L4.boxR g1 26 #[.string ⟨#[]⟩, .slice none 0 0, .int .i64 0], L4.boxR g2 26 #[.string y.name, .slice y.a y.xs.length y.c, .int .i64 y.auto], Bag.bag y.rows] from Bag.take S4.out [0, 2, 3, 4, 1] (by rfl) (by decide))
  clear S4
  go_wp2_with fail
  go_at_call 106
  refine (Sd.below_s S5.out 0 rfl _ (by decide) (by decide)).mono ?_
  rintro e w4 ⟨x, rfl, ⟨hx0, hx1⟩, hS⟩
  have S6 := Lib.hid (show Sl.Sep W _ [curR W c, Q, L4.boxR g1 26 #[.string ⟨#[]⟩, .slice none 0 0, .int .i64 0], L4.boxR g2 26 #[.string y.name, .slice y.a y.xs.length y.c, .int .i64 y.auto], Bag.bag y.rows] from hS)
  clear S5
  clear hS
  try dsimp only [L4.K.v, L4.R.v, LS.v, LS.cells]
  by_cases h0 : x = 0
  · subst h0
    go_wp2_with fail
    go_at_call 107
    refine (Sd.str_sg S6.out 0 rfl [⟨#[]⟩, ⟨#[81]⟩, ⟨#[97, 98, 99, 100, 101, 102, 103, 104, 105]⟩] (fun s => s.size ≤ 9) (by decide) 3 rfl (by decide) (by decide) _ rfl).mono ?_
    rintro e w5 ⟨s, rfl, hs, hS⟩
    have S7 := Lib.hid (show Sl.Sep W _ [curR W c, Q, L4.boxR g1 26 #[.string ⟨#[]⟩, .slice none 0 0, .int .i64 0], L4.boxR g2 26 #[.string y.name, .slice y.a y.xs.length y.c, .int .i64 y.auto], Bag.bag y.rows] from hS)
    clear S6
    clear hS
    try dsimp only [L4.K.v, L4.R.v, LS.v, LS.cells]
    have f0 : World.cell? _ ⟨g2, 0, none⟩ = some (.string y.name) := Bag.cell_at S7.out 3 rfl 0 rfl
    have f1 : World.cell? _ ⟨g2, 1, none⟩ = some (.slice y.a y.xs.length y.c) := Bag.cell_at S7.out 3 rfl 1 rfl
    have f2 : World.cell? _ ⟨g2, 2, none⟩ = some (.int .i64 y.auto) := Bag.cell_at S7.out 3 rfl 2 rfl
    have z0 := Bag.free_at S7.out 3 rfl 0
    have z1 := Bag.free_at S7.out 3 rfl 1
    have z2 := Bag.free_at S7.out 3 rfl 2
    go_upto_region 12 with fail
    clear f0 f1 f2 z0 z1 z2
    have S8 := Lib.hid (show Sl.Sep W _ [curR W c, Q, L4.boxR g1 26 #[.string ⟨#[]⟩, .slice none 0 0, .int .i64 0], L4.boxR g2 26 #[.string s, .slice y.a y.xs.length y.c, .int .i64 y.auto], Bag.bag y.rows] from L5.put_box5 (S7.out) 3 rfl 0 (.string s))
    clear S7
    have f0 : World.cell? _ ⟨g2, 0, none⟩ = some (.string s) := Bag.cell_at S8.out 3 rfl 0 rfl
    have f1 : World.cell? _ ⟨g2, 1, none⟩ = some (.slice y.a y.xs.length y.c) := Bag.cell_at S8.out 3 rfl 1 rfl
    have f2 : World.cell? _ ⟨g2, 2, none⟩ = some (.int .i64 y.auto) := Bag.cell_at S8.out 3 rfl 2 rfl
    clear f0 f1 f2
    have f0 : World.cell? _ ⟨g1, 0, none⟩ = some (.string ⟨#[]⟩) := Bag.cell_at S8.out 2 rfl 0 rfl
    have f1 : World.cell? _ ⟨g1, 1, none⟩ = some (.slice none 0 0) := Bag.cell_at S8.out 2 rfl 1 rfl
    have f2 : World.cell? _ ⟨g1, 2, none⟩ = some (.int .i64 0) := Bag.cell_at S8.out 2 rfl 2 rfl
    have f3 : World.cell? _ ⟨g2, 0, none⟩ = some (.string s) := Bag.cell_at S8.out 3 rfl 0 rfl
    have f4 : World.cell? _ ⟨g2, 1, none⟩ = some (.slice y.a y.xs.length y.c) := Bag.cell_at S8.out 3 rfl 1 rfl
    have f5 : World.cell? _ ⟨g2, 2, none⟩ = some (.int .i64 y.auto) := Bag.cell_at S8.out 3 rfl 2 rfl
    have z0 := Bag.free_at S8.out 2 rfl 0
    have z1 := Bag.free_at S8.out 2 rfl 1
    have z2 := Bag.free_at S8.out 2 rfl 2
    go_wp2_with fail
    clear f0 f1 f2 f3 f4 f5 z0 z1 z2
    have S9 := Lib.hid (show Sl.Sep W _ [curR W c, Q, L4.boxR g1 26 #[.string s, .slice y.a y.xs.length y.c, .int .i64 y.auto], L4.boxR g2 26 #[.string s, .slice y.a y.xs.length y.c, .int .i64 y.auto], Bag.bag y.rows] from L5.put_box5 (L5.put_box5 (L5.put_box5 (S8.out) 2 rfl 0 (.string s)) 2 rfl 1 (.slice y.a y.xs.length y.c)) 2 rfl 2 (.int .i64 y.auto))
    clear S8
    have f0 : World.cell? _ ⟨g1, 0, none⟩ = some (.string s) := Bag.cell_at S9.out 2 rfl 0 rfl
    have f1 : World.cell? _ ⟨g1, 1, none⟩ = some (.slice y.a y.xs.length y.c) := Bag.cell_at S9.out 2 rfl 1 rfl
    have f2 : World.cell? _ ⟨g1, 2, none⟩ = some (.int .i64 y.auto) := Bag.cell_at S9.out 2 rfl 2 rfl
    refine bodyPost_ret (v := .agg #[.string s, .slice y.a y.xs.length y.c, .int .i64 y.auto]) (by simp [results, Try.results80, go_sem, *]) rfl ?_
    clear f0 f1 f2
    have S10 := Lib.hid (show Sl.Sep W _ [curR W c, Q, Bag.bag y.rows] from Bag.take S9.out [0, 1, 4] (by rfl) (by decide))
    clear S9
    exact ⟨⟨s, y.a, y.c, y.xs, y.auto⟩, rfl, ⟨by show s.size ≤ _; omega, HN.out.fit.len, HN.out.fit.items⟩, S10.out⟩
  by_cases h1 : x = 1
  · subst h1
    go_wp2_with fail
    go_at_call 108
    refine (Sd.int_sg S6.out 0 rfl [-1, 999999, 1000000, 1000001] (fun n => -1 ≤ n) (by decide) 4 rfl (by decide) (by decide) _ rfl).mono ?_
    rintro e w5 ⟨n0, rfl, hn0, hS⟩
    have S7 := Lib.hid (show Sl.Sep W _ [curR W c, Q, L4.boxR g1 26 #[.string ⟨#[]⟩, .slice none 0 0, .int .i64 0], L4.boxR g2 26 #[.string y.name, .slice y.a y.xs.length y.c, .int .i64 y.auto], Bag.bag y.rows] from hS)
    clear S6
    clear hS
    try dsimp only [L4.K.v, L4.R.v, LS.v, LS.cells]
    have f0 : World.cell? _ ⟨g2, 0, none⟩ = some (.string y.name) := Bag.cell_at S7.out 3 rfl 0 rfl
    have f1 : World.cell? _ ⟨g2, 1, none⟩ = some (.slice y.a y.xs.length y.c) := Bag.cell_at S7.out 3 rfl 1 rfl
    have f2 : World.cell? _ ⟨g2, 2, none⟩ = some (.int .i64 y.auto) := Bag.cell_at S7.out 3 rfl 2 rfl
    have z0 := Bag.free_at S7.out 3 rfl 0
    have z1 := Bag.free_at S7.out 3 rfl 1
    have z2 := Bag.free_at S7.out 3 rfl 2
    go_upto_region 12 with fail
    clear f0 f1 f2 z0 z1 z2
    have S8 := Lib.hid (show Sl.Sep W _ [curR W c, Q, L4.boxR g1 26 #[.string ⟨#[]⟩, .slice none 0 0, .int .i64 0], L4.boxR g2 26 #[.string y.name, .slice y.a y.xs.length y.c, .int .i64 n0], Bag.bag y.rows] from L5.put_box5 (S7.out) 3 rfl 2 (.int .i64 n0))
    clear S7
    have f0 : World.cell? _ ⟨g2, 0, none⟩ = some (.string y.name) := Bag.cell_at S8.out 3 rfl 0 rfl
    have f1 : World.cell? _ ⟨g2, 1, none⟩ = some (.slice y.a y.xs.length y.c) := Bag.cell_at S8.out 3 rfl 1 rfl
    have f2 : World.cell? _ ⟨g2, 2, none⟩ = some (.int .i64 n0) := Bag.cell_at S8.out 3 rfl 2 rfl
    clear f0 f1 f2
    have f0 : World.cell? _ ⟨g1, 0, none⟩ = some (.string ⟨#[]⟩) := Bag.cell_at S8.out 2 rfl 0 rfl
    have f1 : World.cell? _ ⟨g1, 1, none⟩ = some (.slice none 0 0) := Bag.cell_at S8.out 2 rfl 1 rfl
    have f2 : World.cell? _ ⟨g1, 2, none⟩ = some (.int .i64 0) := Bag.cell_at S8.out 2 rfl 2 rfl
    have f3 : World.cell? _ ⟨g2, 0, none⟩ = some (.string y.name) := Bag.cell_at S8.out 3 rfl 0 rfl
    have f4 : World.cell? _ ⟨g2, 1, none⟩ = some (.slice y.a y.xs.length y.c) := Bag.cell_at S8.out 3 rfl 1 rfl
    have f5 : World.cell? _ ⟨g2, 2, none⟩ = some (.int .i64 n0) := Bag.cell_at S8.out 3 rfl 2 rfl
    have z0 := Bag.free_at S8.out 2 rfl 0
    have z1 := Bag.free_at S8.out 2 rfl 1
    have z2 := Bag.free_at S8.out 2 rfl 2
    go_wp2_with fail
    clear f0 f1 f2 f3 f4 f5 z0 z1 z2
    have S9 := Lib.hid (show Sl.Sep W _ [curR W c, Q, L4.boxR g1 26 #[.string y.name, .slice y.a y.xs.length y.c, .int .i64 n0], L4.boxR g2 26 #[.string y.name, .slice y.a y.xs.length y.c, .int .i64 n0], Bag.bag y.rows] from L5.put_box5 (L5.put_box5 (L5.put_box5 (S8.out) 2 rfl 0 (.string y.name)) 2 rfl 1 (.slice y.a y.xs.length y.c)) 2 rfl 2 (.int .i64 n0))
    clear S8
    have f0 : World.cell? _ ⟨g1, 0, none⟩ = some (.string y.name) := Bag.cell_at S9.out 2 rfl 0 rfl
    have f1 : World.cell? _ ⟨g1, 1, none⟩ = some (.slice y.a y.xs.length y.c) := Bag.cell_at S9.out 2 rfl 1 rfl
    have f2 : World.cell? _ ⟨g1, 2, none⟩ = some (.int .i64 n0) := Bag.cell_at S9.out 2 rfl 2 rfl
    refine bodyPost_ret (v := .agg #[.string y.name, .slice y.a y.xs.length y.c, .int .i64 n0]) (by simp [results, Try.results80, go_sem, *]) rfl ?_
    clear f0 f1 f2
    have S10 := Lib.hid (show Sl.Sep W _ [curR W c, Q, Bag.bag y.rows] from Bag.take S9.out [0, 1, 4] (by rfl) (by decide))
    clear S9
    exact ⟨⟨y.name, y.a, y.c, y.xs, n0⟩, rfl, ⟨HN.out.fit.name, HN.out.fit.len, HN.out.fit.items⟩, S10.out⟩
  by_cases h2 : x = 2
  · subst h2
    go_upto_region 8 with fail
    refine Reg.wp_region_late (fun w' => True) (fun w' => World.cell? w' ⟨g2, 0, none⟩ = some (.string y.name) ∧ World.cell? w' ⟨g2, 1, none⟩ = some (.slice y.a y.xs.length y.c) ∧ World.cell? w' ⟨g2, 2, none⟩ = some (.int .i64 y.auto)) 10 (by kernel_rfl) trivial ⟨Bag.cell_at S6.out 3 rfl 0 rfl, Bag.cell_at S6.out 3 rfl 1 rfl, Bag.cell_at S6.out 3 rfl 2 rfl⟩ (fun hS hL => ?_)
    have S7 := Lib.hid (show Sl.Sep W _ [curR W c, Q, L4.boxR g1 26 #[.string ⟨#[]⟩, .slice none 0 0, .int .i64 0], L4.boxR g2 26 #[.string y.name, .slice y.a y.xs.length y.c, .int .i64 y.auto], Bag.bag y.rows] from Bag.drew1 S6.out)
    clear S6
    generalize World.drew _ = w5 at hS hL S7 ⊢
    refine Reg.early_op (i := 0) (v := ?_) rfl (by kernel_rfl) (by kernel_rfl) (by kernel_rfl) rfl (by kernel_rfl) (by kernel_rfl) (fun _ _ _ h => h) (by rfl) ?_ hS hL ?_
    rotate_left
    · (intro w hSw hSv; (try dsimp only at hSw); (try dsimp only at hSv); go_simp; try with_reducible rfl)
    try simp only [zp0, zp1, zp2, zp3, zp4]
    refine Reg.early_op (i := 1) (v := ?_) rfl (by kernel_rfl) (by kernel_rfl) (by kernel_rfl) rfl (by kernel_rfl) (by kernel_rfl) (fun _ _ _ h => h) (by rfl) ?_ hS hL ?_
    rotate_left
    · (intro w hSw hSv; (try dsimp only at hSw); (try dsimp only at hSv); go_simp; try with_reducible rfl)
    try simp only [zp0, zp1, zp2, zp3, zp4]
    refine Reg.early_op (i := 2) (v := ?_) rfl (by kernel_rfl) (by kernel_rfl) (by kernel_rfl) rfl (by kernel_rfl) (by kernel_rfl) (fun _ _ _ h => h) (by rfl) ?_ hS hL ?_
    rotate_left
    · (intro w hSw hSv; (try dsimp only at hSw); (try dsimp only at hSv); go_simp; try with_reducible rfl)
    try simp only [zp0, zp1, zp2, zp3, zp4]
    refine Reg.early_op (i := 4) (v := ?_) rfl (by kernel_rfl) (by kernel_rfl) (by kernel_rfl) rfl (by kernel_rfl) (by kernel_rfl) (fun _ _ _ h => h) (by rfl) ?_ hS hL ?_
    rotate_left
    · (intro w hSw hSv; (try dsimp only at hSw); (try dsimp only at hSv); go_simp; try with_reducible rfl)
    try simp only [zp0, zp1, zp2, zp3, zp4]
    refine Reg.only_op (i := 3) rfl (by kernel_rfl) (fun K hK => ?_)
    go_simp
    go_at_call 103
    refine (Sd.any_s S7.out 0 rfl).mono ?_
    rintro e w6 ⟨⟨kd, n, t⟩, rfl, hk, hS⟩
    have S8 := Lib.hid (show Sl.Sep W _ [curR W c, Q, L4.boxR g1 26 #[.string ⟨#[]⟩, .slice none 0 0, .int .i64 0], L4.boxR g2 26 #[.string y.name, .slice y.a y.xs.length y.c, .int .i64 y.auto], Bag.bag y.rows] from hS)
    clear S7
    clear hS
    try dsimp only [L4.K.v, L4.R.v, LS.v, LS.cells]
    have HK := Lib.hid hk
    clear hk
    go_wp2_with fail
    clear hL
    refine hK.out _ _ trivial ⟨Bag.cell_at S8.out 3 rfl 0 rfl, Bag.cell_at S8.out 3 rfl 1 rfl, Bag.cell_at S8.out 3 rfl 2 rfl⟩ (fun hS hL => ?_)
    clear hK K
    try simp only [zp0, zp1, zp2, zp3, zp4]
    refine Reg.only_op (i := 5) rfl (by kernel_rfl) (fun K hK => ?_)
    go_simp
    go_at_call 58
    refine (L5.any_s S8.out 0 rfl).mono ?_
    rintro e w7 ⟨a1, c1, l, rfl, hl, hS⟩
    have S9 := Lib.hid (show Sl.Sep W _ [curR W c, Q, L4.boxR g1 26 #[.string ⟨#[]⟩, .slice none 0 0, .int .i64 0], L4.boxR g2 26 #[.string y.name, .slice y.a y.xs.length y.c, .int .i64 y.auto], Bag.bag y.rows, Sv.ownV 102 2 a1 c1 l.length (cellsF l)] from hS)
    clear S8
    clear hS
    try dsimp only [L4.K.v, L4.R.v, LS.v, LS.cells]
    have HL := Lib.hid hl
    clear hl
    go_wp2_with fail
    clear hL
    refine hK.out _ _ trivial ⟨Bag.cell_at S9.out 3 rfl 0 rfl, Bag.cell_at S9.out 3 rfl 1 rfl, Bag.cell_at S9.out 3 rfl 2 rfl⟩ (fun hS hL => ?_)
    clear hK K
    try simp only [zp0, zp1, zp2, zp3, zp4]
    refine Reg.early_op (i := 6) (v := ?_) rfl (by kernel_rfl) (by kernel_rfl) (by kernel_rfl) rfl (by kernel_rfl) (by kernel_rfl) (fun _ _ _ h => h) (by rfl) ?_ hS hL ?_
    rotate_left
    · (intro w hSw hSv; (try dsimp only at hSw); (try dsimp only at hSv); go_simp; try with_reducible rfl)
    try simp only [zp0, zp1, zp2, zp3, zp4]
    refine Reg.only_op (i := 7) rfl (by kernel_rfl) (fun K hK => ?_)
    go_simp
    have S10 := Lib.hid (show Sl.Sep W _ [curR W c, Q, L4.boxR g1 26 #[.string ⟨#[]⟩, .slice none 0 0, .int .i64 0], L4.boxR g2 26 #[.string y.name, .slice y.a y.xs.length y.c, .int .i64 y.auto], Bag.bag y.rows, Sv.ownV 102 2 a1 c1 l.length (cellsF l), Sv.ownV 40 4 (some ⟨w7.heap.size, 0, none⟩) 1 1 (cellsI [⟨⟨kd, n, t⟩, a1, c1, l⟩])] from Sv.push_own S9.out ((Below.refl _ _).alloc (Nat.le_refl _) _) (OwnV.madeAt w7 40 4 1 w7.heap.size #[.int .i64 kd, .int .i64 n, .string t, .slice a1 l.length c1] rfl (Nat.le_refl _) rfl (by decide)))
    clear S9
    obtain ⟨g3, hg⟩ : ∃ g', g' = w7.heap.size := ⟨_, rfl⟩
    rw [← hg] at S10 ⊢
    clear hg
    generalize w7.alloc (.cells #[.int .i64 kd, .int .i64 n, .string t, .slice a1 l.length c1] 40) = w8 at S10 ⊢
    clear hL
    refine hK.out _ _ trivial ⟨Bag.cell_at S10.out 3 rfl 0 rfl, Bag.cell_at S10.out 3 rfl 1 rfl, Bag.cell_at S10.out 3 rfl 2 rfl⟩ (fun hS hL => ?_)
    clear hK K
    try simp only [zp0, zp1, zp2, zp3, zp4]
    refine Reg.only_op (i := 8) rfl (by kernel_rfl) (fun K hK => ?_)
    have S11 := Lib.hid (show Sl.Sep W _ [curR W c, Q, L4.boxR g1 26 #[.string ⟨#[]⟩, .slice none 0 0, .int .i64 0], L4.boxR g2 26 #[.string y.name, .slice y.a y.xs.length y.c, .int .i64 y.auto], Bag.bag ([rowI y.a y.c y.xs]), Sv.ownV 102 2 a1 c1 l.length (cellsF l), Sv.ownV 40 4 (some ⟨g3, 0, none⟩) 1 1 (cellsI [⟨⟨kd, n, t⟩, a1, c1, l⟩]), Bag.bag (rowsI y.xs)] from Bag.bag_split S10.out 4 (xs := [rowI y.a y.c y.xs]) (ys := rowsI y.xs) rfl)
    clear S10
    have S12 := Lib.hid (show Sl.Sep W _ [curR W c, Q, L4.boxR g1 26 #[.string ⟨#[]⟩, .slice none 0 0, .int .i64 0], L4.boxR g2 26 #[.string y.name, .slice y.a y.xs.length y.c, .int .i64 y.auto], Sv.ownV 40 4 y.a y.c y.xs.length (cellsI y.xs), Sv.ownV 102 2 a1 c1 l.length (cellsF l), Sv.ownV 40 4 (some ⟨g3, 0, none⟩) 1 1 (cellsI [⟨⟨kd, n, t⟩, a1, c1, l⟩]), Bag.bag (rowsI y.xs)] from Bag.one_of_bag S11.out 4 (r := rowI y.a y.c y.xs) rfl)
    clear S11
    refine Sv.step_append_s S12.out 4 rfl rfl _ _ 24 (by rfl) i0 (.agg #[.int .i64 0, .int .i64 0, .string ⟨#[]⟩, .slice none 0 0]) 56 Try.underlying24 HI.out.1 HI.out.2.1 HI.out.2.2.1 HI.out.2.2.2 rfl (by omega) _ (by rfl) rfl _ _ 1 _ _ (cellsI [⟨⟨kd, n, t⟩, a1, c1, l⟩]) (by rfl) rfl ((Sv.own_at S12.out 6 rfl).reads) rfl (cellsI_one _) (by unfold maxLen; omega) (by omega) ?_
    intro a4' c4' w9 hA
    have S13 := Lib.hid (show Sl.Sep W _ [curR W c, Q, L4.boxR g1 26 #[.string ⟨#[]⟩, .slice none 0 0, .int .i64 0], L4.boxR g2 26 #[.string y.name, .slice y.a y.xs.length y.c, .int .i64 y.auto], Sv.ownV 40 4 a4' c4' (y.xs.length + 1) (cellsI y.xs ++ (cellsI [⟨⟨kd, n, t⟩, a1, c1, l⟩])), Sv.ownV 102 2 a1 c1 l.length (cellsF l), Sv.ownV 40 4 (some ⟨g3, 0, none⟩) 1 1 (cellsI [⟨⟨kd, n, t⟩, a1, c1, l⟩]), Bag.bag (rowsI y.xs)] from hA)
    clear S12
    clear hA
    clear hL
    refine hK.out _ _ trivial ⟨Bag.cell_at S13.out 3 rfl 0 rfl, Bag.cell_at S13.out 3 rfl 1 rfl, Bag.cell_at S13.out 3 rfl 2 rfl⟩ (fun hS hL => ?_)
    clear hK K
    try simp only [zp0, zp1, zp2, zp3, zp4]
    refine Reg.early_op (i := 9) (v := ?_) rfl (by kernel_rfl) (by kernel_rfl) (by kernel_rfl) rfl (by kernel_rfl) (by kernel_rfl) (fun _ _ _ h => h) (by rfl) ?_ hS hL ?_
    rotate_left
    · (intro w hSw hSv; (try dsimp only at hSw); (try dsimp only at hSv); go_simp; try with_reducible rfl)
    try simp only [zp0, zp1, zp2, zp3, zp4]
    refine Reg.late_op (i := 10) rfl (by kernel_rfl) rfl (fun K hK => ?_)
    have f0 : World.cell? _ ⟨g2, 0, none⟩ = some (.string y.name) := Bag.cell_at S13.out 3 rfl 0 rfl
    have f1 : World.cell? _ ⟨g2, 1, none⟩ = some (.slice y.a y.xs.length y.c) := Bag.cell_at S13.out 3 rfl 1 rfl
    have f2 : World.cell? _ ⟨g2, 2, none⟩ = some (.int .i64 y.auto) := Bag.cell_at S13.out 3 rfl 2 rfl
    have z0 := Bag.free_at S13.out 3 rfl 0
    have z1 := Bag.free_at S13.out 3 rfl 1
    have z2 := Bag.free_at S13.out 3 rfl 2
    go_simp
    clear f0 f1 f2 z0 z1 z2
    have S14 := Lib.hid (show Sl.Sep W _ [curR W c, Q, L4.boxR g1 26 #[.string ⟨#[]⟩, .slice none 0 0, .int .i64 0], L4.boxR g2 26 #[.string y.name, .slice a4' (y.xs.length + 1) c4', .int .i64 y.auto], Sv.ownV 40 4 a4' c4' (y.xs.length + 1) (cellsI y.xs ++ (cellsI [⟨⟨kd, n, t⟩, a1, c1, l⟩])), Sv.ownV 102 2 a1 c1 l.length (cellsF l), Sv.ownV 40 4 (some ⟨g3, 0, none⟩) 1 1 (cellsI [⟨⟨kd, n, t⟩, a1, c1, l⟩]), Bag.bag (rowsI y.xs)] from L5.put_box5 (S13.out) 3 rfl 1 (.slice a4' (y.xs.length + 1) c4'))
    clear S13
    refine hK.out _ _ trivial (fun hS => ?_)
    clear hL
    clear hK K
    try simp only [zp0, zp1, zp2, zp3, zp4]
    refine Reg.anyL_done (by kernel_rfl) ?_ _
    have f0 : World.cell? _ ⟨g1, 0, none⟩ = some (.string ⟨#[]⟩) := Bag.cell_at S14.out 2 rfl 0 rfl
    have f1 : World.cell? _ ⟨g1, 1, none⟩ = some (.slice none 0 0) := Bag.cell_at S14.out 2 rfl 1 rfl
    have f2 : World.cell? _ ⟨g1, 2, none⟩ = some (.int .i64 0) := Bag.cell_at S14.out 2 rfl 2 rfl
    have f3 : World.cell? _ ⟨g2, 0, none⟩ = some (.string y.name) := Bag.cell_at S14.out 3 rfl 0 rfl
    have f4 : World.cell? _ ⟨g2, 1, none⟩ = some (.slice a4' (y.xs.length + 1) c4') := Bag.cell_at S14.out 3 rfl 1 rfl
    have f5 : World.cell? _ ⟨g2, 2, none⟩ = some (.int .i64 y.auto) := Bag.cell_at S14.out 3 rfl 2 rfl
    clear f0 f1 f2 f3 f4 f5
    have S15 := Lib.hid (show Sl.Sep W _ [curR W c, Q, L4.boxR g1 26 #[.string ⟨#[]⟩, .slice none 0 0, .int .i64 0], L4.boxR g2 26 #[.string y.name, .slice a4' (y.xs.length + 1) c4', .int .i64 y.auto], Sv.ownV 40 4 a4' c4' (y.xs.length + 1) (cellsI y.xs ++ (cellsI [⟨⟨kd, n, t⟩, a1, c1, l⟩])), Sv.ownV 102 2 a1 c1 l.length (cellsF l), Bag.bag (rowsI y.xs)] from Bag.take S14.out [0, 1, 2, 3, 4, 5, 7] (by rfl) (by decide))
    clear S14
    try dsimp only
    have S16 := Lib.hid (show Sl.Sep W _ [curR W c, Q, L4.boxR g1 26 #[.string ⟨#[]⟩, .slice none 0 0, .int .i64 0], L4.boxR g2 26 #[.string y.name, .slice a4' (y.xs.length + 1) c4', .int .i64 y.auto], Bag.bag ([rowI a4' c4' (y.xs ++ [⟨⟨kd, n, t⟩, a1, c1, l⟩])]), Sv.ownV 102 2 a1 c1 l.length (cellsF l), Bag.bag (rowsI y.xs)] from Bag.bag_of_one S15.out 4 (r := rowI a4' c4' (y.xs ++ [⟨⟨kd, n, t⟩, a1, c1, l⟩])) (by show some _ = some _; unfold RowS.res rowI; dsimp only; rw [List.length_append, cellsI_append]; rfl))
    clear S15
    have S17 := Lib.hid (show Sl.Sep W _ [curR W c, Q, L4.boxR g1 26 #[.string ⟨#[]⟩, .slice none 0 0, .int .i64 0], L4.boxR g2 26 #[.string y.name, .slice a4' (y.xs.length + 1) c4', .int .i64 y.auto], Bag.bag ([rowI a4' c4' (y.xs ++ [⟨⟨kd, n, t⟩, a1, c1, l⟩])]), Bag.bag ([(LI.mk ⟨kd, n, t⟩ a1 c1 l).row]), Bag.bag (rowsI y.xs)] from Bag.bag_of_one S16.out 5 (r := (LI.mk ⟨kd, n, t⟩ a1 c1 l).row) rfl)
    clear S16
    have S18 := Lib.hid (show Sl.Sep W _ [curR W c, Q, L4.boxR g1 26 #[.string ⟨#[]⟩, .slice none 0 0, .int .i64 0], L4.boxR g2 26 #[.string y.name, .slice a4' (y.xs.length + 1) c4', .int .i64 y.auto], Bag.bag ([rowI a4' c4' (y.xs ++ [⟨⟨kd, n, t⟩, a1, c1, l⟩])]), Bag.bag ([]), Bag.bag (rowsI y.xs ++ ([(LI.mk ⟨kd, n, t⟩ a1 c1 l).row]))] from Bag.bag_join S17.out 6 5 (by decide) rfl rfl)
    clear S17
    have S19 := Lib.hid (show Sl.Sep W _ [curR W c, Q, L4.boxR g1 26 #[.string ⟨#[]⟩, .slice none 0 0, .int .i64 0], L4.boxR g2 26 #[.string y.name, .slice a4' (y.xs.length + 1) c4', .int .i64 y.auto], Bag.bag ([rowI a4' c4' (y.xs ++ [⟨⟨kd, n, t⟩, a1, c1, l⟩])] ++ (rowsI y.xs ++ ([(LI.mk ⟨kd, n, t⟩ a1 c1 l).row]))), Bag.bag ([]), Bag.bag ([])] from Bag.bag_join S18.out 4 6 (by decide) rfl rfl)
    clear S18
    have S20 := Lib.hid (show Sl.Sep W _ [curR W c, Q, L4.boxR g1 26 #[.string ⟨#[]⟩, .slice none 0 0, .int .i64 0], L4.boxR g2 26 #[.string y.name, .slice a4' (y.xs.length + 1) c4', .int .i64 y.auto], Bag.bag ([rowI a4' c4' (y.xs ++ [⟨⟨kd, n, t⟩, a1, c1, l⟩])] ++ (rowsI y.xs ++ ([(LI.mk ⟨kd, n, t⟩ a1 c1 l).row])))] from Bag.take S19.out [0, 1, 2, 3, 4] (by rfl) (by decide))
    clear S19
    have S21 := Lib.hid (show Sl.Sep W _ [curR W c, Q, L4.boxR g1 26 #[.string ⟨#[]⟩, .slice none 0 0, .int .i64 0], L4.boxR g2 26 #[.string y.name, .slice a4' (y.xs.length + 1) c4', .int .i64 y.auto], Bag.bag ((LS.mk y.name a4' c4' (y.xs ++ [⟨⟨kd, n, t⟩, a1, c1, l⟩]) y.auto).rows)] from (by have h := S20.out; rw [show (LS.mk y.name a4' c4' (y.xs ++ [⟨⟨kd, n, t⟩, a1, c1, l⟩]) y.auto).rows = [rowI a4' c4' (y.xs ++ [⟨⟨kd, n, t⟩, a1, c1, l⟩])] ++ (rowsI y.xs ++ [(LI.mk ⟨kd, n, t⟩ a1 c1 l).row]) from by unfold LS.rows; rw [rowsI_append]; rfl]; exact h))
    clear S20
    have f0 : World.cell? _ ⟨g2, 0, none⟩ = some (.string y.name) := Bag.cell_at S21.out 3 rfl 0 rfl
    have f1 : World.cell? _ ⟨g2, 1, none⟩ = some (.slice a4' (y.xs.length + 1) c4') := Bag.cell_at S21.out 3 rfl 1 rfl
    have f2 : World.cell? _ ⟨g2, 2, none⟩ = some (.int .i64 y.auto) := Bag.cell_at S21.out 3 rfl 2 rfl
    clear f0 f1 f2
    have f0 : World.cell? _ ⟨g1, 0, none⟩ = some (.string ⟨#[]⟩) := Bag.cell_at S21.out 2 rfl 0 rfl
    have f1 : World.cell? _ ⟨g1, 1, none⟩ = some (.slice none 0 0) := Bag.cell_at S21.out 2 rfl 1 rfl
    have f2 : World.cell? _ ⟨g1, 2, none⟩ = some (.int .i64 0) := Bag.cell_at S21.out 2 rfl 2 rfl
    have f3 : World.cell? _ ⟨g2, 0, none⟩ = some (.string y.name) := Bag.cell_at S21.out 3 rfl 0 rfl
    have f4 : World.cell? _ ⟨g2, 1, none⟩ = some (.slice a4' (y.xs.length + 1) c4') := Bag.cell_at S21.out 3 rfl 1 rfl
    have f5 : World.cell? _ ⟨g2, 2, none⟩ = some (.int .i64 y.auto) := Bag.cell_at S21.out 3 rfl 2 rfl
    have z0 := Bag.free_at S21.out 2 rfl 0
    have z1 := Bag.free_at S21.out 2 rfl 1
    have z2 := Bag.free_at S21.out 2 rfl 2
    go_wp2_with fail
    clear f0 f1 f2 f3 f4 f5 z0 z1 z2
    have S22 := Lib.hid (show Sl.Sep W _ [curR W c, Q, L4.boxR g1 26 #[.string y.name, .slice a4' (y.xs.length + 1) c4', .int .i64 y.auto], L4.boxR g2 26 #[.string y.name, .slice a4' (y.xs.length + 1) c4', .int .i64 y.auto], Bag.bag ((LS.mk y.name a4' c4' (y.xs ++ [⟨⟨kd, n, t⟩, a1, c1, l⟩]) y.auto).rows)] from L5.put_box5 (L5.put_box5 (L5.put_box5 (S21.out) 2 rfl 0 (.string y.name)) 2 rfl 1 (.slice a4' (y.xs.length + 1) c4')) 2 rfl 2 (.int .i64 y.auto))
    clear S21
    have f0 : World.cell? _ ⟨g1, 0, none⟩ = some (.string y.name) := Bag.cell_at S22.out 2 rfl 0 rfl
    have f1 : World.cell? _ ⟨g1, 1, none⟩ = some (.slice a4' (y.xs.length + 1) c4') := Bag.cell_at S22.out 2 rfl 1 rfl
    have f2 : World.cell? _ ⟨g1, 2, none⟩ = some (.int .i64 y.auto) := Bag.cell_at S22.out 2 rfl 2 rfl
    refine bodyPost_ret (v := .agg #[.string y.name, .slice a4' (y.xs.length + 1) c4', .int .i64 y.auto]) (by simp [results, Try.results80, go_sem, *]) rfl ?_
    clear f0 f1 f2
    have S23 := Lib.hid (show Sl.Sep W _ [curR W c, Q, Bag.bag ((LS.mk y.name a4' c4' (y.xs ++ [⟨⟨kd, n, t⟩, a1, c1, l⟩]) y.auto).rows)] from Bag.take S22.out [0, 1, 4] (by rfl) (by decide))
    clear S22
    exact ⟨⟨y.name, a4', c4', y.xs ++ [⟨⟨kd, n, t⟩, a1, c1, l⟩], y.auto⟩, by unfold LS.v LS.cells; dsimp only; rw [List.length_append]; rfl, ⟨HN.out.fit.name, by show (conI (y.xs ++ [_])).length ≤ _; rw [conI_length, List.length_append]; show y.xs.length + 1 ≤ _; omega, fun x hx => by
          have hx' : x ∈ conI y.xs ++ [⟨⟨kd, n, t⟩, l⟩] := by have := hx; unfold LS.con at this; dsimp only at this; rw [conI_snoc] at this; exact this
          rcases List.mem_append.1 hx' with hx | hx
          · exact HN.out.fit.items x hx
          · rw [List.mem_singleton.1 hx]; exact fitI_of (by have := HK.out.2.2.2.2; omega) (HL.out.mono (by omega))⟩, S23.out⟩
  by_cases h3 : x = 3
  · subst h3
    go_wp2_with fail
    go_loopw [] (fun wr => ∃ z : LS, Hid (Nice z.con (256 + (z.xs.length : Int)) ∧ Sl.Sep W wr [curR W c, Q, L4.boxR g1 26 #[.string ⟨#[]⟩, .slice none 0 0, .int .i64 0], L4.boxR g2 26 #[.string z.name, .slice z.a z.xs.length z.c, .int .i64 z.auto], Bag.bag z.rows])) (fun wr => 16 - lenOf wr g2)
    case atStart => exact ⟨y, And.intro (HN.out.more (by omega)) S6.out⟩
    case round =>
      obtain ⟨z, hrel⟩ := hrel
      have HZ := Lib.hid hrel.out.1
      have S7 := Lib.hid hrel.out.2
      clear hrel S6
      have hlz : z.xs.length ≤ 16 := by have := (isS_iff.1 HZ.out.valid).2.2.1; simpa [LS.con] using this
      have HM := Lib.hid (lenOf_at (Bag.cell_at S7.out 3 rfl 1 rfl))
      by_cases hlt : (z.xs.length : Int) < 16
      · skip
        have f0 : World.cell? _ ⟨g2, 0, none⟩ = some (.string z.name) := Bag.cell_at S7.out 3 rfl 0 rfl
        have f1 : World.cell? _ ⟨g2, 1, none⟩ = some (.slice z.a z.xs.length z.c) := Bag.cell_at S7.out 3 rfl 1 rfl
        have f2 : World.cell? _ ⟨g2, 2, none⟩ = some (.int .i64 z.auto) := Bag.cell_at S7.out 3 rfl 2 rfl
        have HC := specIsStore_any z HZ.out.fit _ (Bag.bag_rd S7.out 4 rfl)
        rw [HZ.out.valid] at HC
        dsimp only [LS.v, LS.cells] at HC
        go_wp2_with fail
        go_at_call 28
        refine HC.mono ?_
        clear HC
        rintro e w5 ⟨rfl, hb⟩
        clear f0 f1 f2
        have S8 := Lib.hid (show Sl.Sep W _ [curR W c, Q, L4.boxR g1 26 #[.string ⟨#[]⟩, .slice none 0 0, .int .i64 0], L4.boxR g2 26 #[.string z.name, .slice z.a z.xs.length z.c, .int .i64 z.auto], Bag.bag z.rows] from S7.out.keep hb)
        clear S7
        clear hb
        have f0 : World.cell? _ ⟨g2, 0, none⟩ = some (.string z.name) := Bag.cell_at S8.out 3 rfl 0 rfl
        have f1 : World.cell? _ ⟨g2, 1, none⟩ = some (.slice z.a z.xs.length z.c) := Bag.cell_at S8.out 3 rfl 1 rfl
        have f2 : World.cell? _ ⟨g2, 2, none⟩ = some (.int .i64 z.auto) := Bag.cell_at S8.out 3 rfl 2 rfl
        obtain ⟨hs1, hs2, hs3⟩ := HZ.out.step (by omega) (by show (conI z.xs).length < 16; rw [conI_length]; omega)
        have HS := Lib.hid (And.intro hs1 (And.intro hs2 hs3))
        clear hs1 hs2 hs3
        have HC := specAutoItem_any z none 0 [] HZ.out.fit (by have : 0 ≤ z.con.auto := (isS_iff.1 HZ.out.valid).2.2.2.1; have : z.con.auto = z.auto := rfl; omega) (by decide) small_nil _ (Bag.bag_rd S8.out 4 rfl) (show Reads _ _ _ (cellsF []) from Reads.nil)
        dsimp only [LS.v, LS.cells, List.length_nil] at HC
        go_wp2_with fail
        go_at_call 24
        refine HC.mono ?_
        clear HC
        rintro e w6 ⟨y', rfl, hcon, ho, hb⟩
        clear f0 f1 f2
        have S9 := Lib.hid (show Sl.Sep W _ [curR W c, Q, L4.boxR g1 26 #[.string ⟨#[]⟩, .slice none 0 0, .int .i64 0], L4.boxR g2 26 #[.string z.name, .slice z.a z.xs.length z.c, .int .i64 z.auto], Bag.bag z.rows, Bag.bag y'.rows] from Bag.push_bag S8.out hb ho)
        clear S8
        clear ho hb
        dsimp only [LS.v, LS.cells]
        have HCON := Lib.hid hcon
        clear hcon
        have f0 : World.cell? _ ⟨g2, 0, none⟩ = some (.string z.name) := Bag.cell_at S9.out 3 rfl 0 rfl
        have f1 : World.cell? _ ⟨g2, 1, none⟩ = some (.slice z.a z.xs.length z.c) := Bag.cell_at S9.out 3 rfl 1 rfl
        have f2 : World.cell? _ ⟨g2, 2, none⟩ = some (.int .i64 z.auto) := Bag.cell_at S9.out 3 rfl 2 rfl
        have z0 := Bag.free_at S9.out 3 rfl 0
        have z1 := Bag.free_at S9.out 3 rfl 1
        have z2 := Bag.free_at S9.out 3 rfl 2
        have S10 := Lib.hid (show Sl.Sep W _ [curR W c, Q, L4.boxR g1 26 #[.string ⟨#[]⟩, .slice none 0 0, .int .i64 0], L4.boxR g2 26 #[.string y'.name, .slice y'.a y'.xs.length y'.c, .int .i64 y'.auto], Bag.bag z.rows, Bag.bag y'.rows] from L5.put_box5 (L5.put_box5 (L5.put_box5 (S9.out) 3 rfl 0 (.string y'.name)) 3 rfl 1 (.slice y'.a y'.xs.length y'.c)) 3 rfl 2 (.int .i64 y'.auto))
        clear S9
        have S11 := Lib.hid (show Sl.Sep W _ [curR W c, Q, L4.boxR g1 26 #[.string ⟨#[]⟩, .slice none 0 0, .int .i64 0], L4.boxR g2 26 #[.string y'.name, .slice y'.a y'.xs.length y'.c, .int .i64 y'.auto], Bag.bag y'.rows] from Bag.take S10.out [0, 1, 2, 3, 5] (by rfl) (by decide))
        clear S10
        go_wp2_with fail
        go_roundw
        case rel =>
          refine ⟨y', And.intro ?_ S11.out⟩
          have h1 := HS.out.1
          have h2 := HS.out.2.1
          rw [← HCON.out] at h1 h2
          have h3 : (y'.xs.length : Int) = z.xs.length + 1 := by have : y'.con.items.length = y'.xs.length := conI_length _; have : z.con.items.length = z.xs.length := conI_length _; omega
          exact h1.more (by omega)
        case measure =>
          show 16 - lenOf _ _ < 16 - lenOf _ _
          rw [HM.out, lenOf_at (Bag.cell_at S11.out 3 rfl 1 rfl)]
          have h2 := HS.out.2.1
          rw [← HCON.out] at h2
          have : y'.con.items.length = y'.xs.length := conI_length _
          have : z.con.items.length = z.xs.length := conI_length _
          omega
      · skip
        have f0 : World.cell? _ ⟨g2, 0, none⟩ = some (.string z.name) := Bag.cell_at S7.out 3 rfl 0 rfl
        have f1 : World.cell? _ ⟨g2, 1, none⟩ = some (.slice z.a z.xs.length z.c) := Bag.cell_at S7.out 3 rfl 1 rfl
        have f2 : World.cell? _ ⟨g2, 2, none⟩ = some (.int .i64 z.auto) := Bag.cell_at S7.out 3 rfl 2 rfl
        clear f0 f1 f2
        have f0 : World.cell? _ ⟨g1, 0, none⟩ = some (.string ⟨#[]⟩) := Bag.cell_at S7.out 2 rfl 0 rfl
        have f1 : World.cell? _ ⟨g1, 1, none⟩ = some (.slice none 0 0) := Bag.cell_at S7.out 2 rfl 1 rfl
        have f2 : World.cell? _ ⟨g1, 2, none⟩ = some (.int .i64 0) := Bag.cell_at S7.out 2 rfl 2 rfl
        have f3 : World.cell? _ ⟨g2, 0, none⟩ = some (.string z.name) := Bag.cell_at S7.out 3 rfl 0 rfl
        have f4 : World.cell? _ ⟨g2, 1, none⟩ = some (.slice z.a z.xs.length z.c) := Bag.cell_at S7.out 3 rfl 1 rfl
        have f5 : World.cell? _ ⟨g2, 2, none⟩ = some (.int .i64 z.auto) := Bag.cell_at S7.out 3 rfl 2 rfl
        have z0 := Bag.free_at S7.out 2 rfl 0
        have z1 := Bag.free_at S7.out 2 rfl 1
        have z2 := Bag.free_at S7.out 2 rfl 2
        go_wp2_with fail
        clear f0 f1 f2 f3 f4 f5 z0 z1 z2
        have S8 := Lib.hid (show Sl.Sep W _ [curR W c, Q, L4.boxR g1 26 #[.string z.name, .slice z.a z.xs.length z.c, .int .i64 z.auto], L4.boxR g2 26 #[.string z.name, .slice z.a z.xs.length z.c, .int .i64 z.auto], Bag.bag z.rows] from L5.put_box5 (L5.put_box5 (L5.put_box5 (S7.out) 2 rfl 0 (.string z.name)) 2 rfl 1 (.slice z.a z.xs.length z.c)) 2 rfl 2 (.int .i64 z.auto))
        clear S7
        have f0 : World.cell? _ ⟨g1, 0, none⟩ = some (.string z.name) := Bag.cell_at S8.out 2 rfl 0 rfl
        have f1 : World.cell? _ ⟨g1, 1, none⟩ = some (.slice z.a z.xs.length z.c) := Bag.cell_at S8.out 2 rfl 1 rfl
        have f2 : World.cell? _ ⟨g1, 2, none⟩ = some (.int .i64 z.auto) := Bag.cell_at S8.out 2 rfl 2 rfl
        refine bodyPost_ret (v := .agg #[.string z.name, .slice z.a z.xs.length z.c, .int .i64 z.auto]) (by simp [results, Try.results80, go_sem, *]) rfl ?_
        clear f0 f1 f2
        have S9 := Lib.hid (show Sl.Sep W _ [curR W c, Q, Bag.bag z.rows] from Bag.take S8.out [0, 1, 4] (by rfl) (by decide))
        clear S8
        exact ⟨z, rfl, HZ.out.fit, S9.out⟩
  have f0 : World.cell? _ ⟨g2, 0, none⟩ = some (.string y.name) := Bag.cell_at S6.out 3 rfl 0 rfl
  have f1 : World.cell? _ ⟨g2, 1, none⟩ = some (.slice y.a y.xs.length y.c) := Bag.cell_at S6.out 3 rfl 1 rfl
  have f2 : World.cell? _ ⟨g2, 2, none⟩ = some (.int .i64 y.auto) := Bag.cell_at S6.out 3 rfl 2 rfl
  clear f0 f1 f2
  have f0 : World.cell? _ ⟨g1, 0, none⟩ = some (.string ⟨#[]⟩) := Bag.cell_at S6.out 2 rfl 0 rfl
  have f1 : World.cell? _ ⟨g1, 1, none⟩ = some (.slice none 0 0) := Bag.cell_at S6.out 2 rfl 1 rfl
  have f2 : World.cell? _ ⟨g1, 2, none⟩ = some (.int .i64 0) := Bag.cell_at S6.out 2 rfl 2 rfl
  have f3 : World.cell? _ ⟨g2, 0, none⟩ = some (.string y.name) := Bag.cell_at S6.out 3 rfl 0 rfl
  have f4 : World.cell? _ ⟨g2, 1, none⟩ = some (.slice y.a y.xs.length y.c) := Bag.cell_at S6.out 3 rfl 1 rfl
  have f5 : World.cell? _ ⟨g2, 2, none⟩ = some (.int .i64 y.auto) := Bag.cell_at S6.out 3 rfl 2 rfl
  have z0 := Bag.free_at S6.out 2 rfl 0
  have z1 := Bag.free_at S6.out 2 rfl 1
  have z2 := Bag.free_at S6.out 2 rfl 2
  go_wp2_with fail
  clear f0 f1 f2 f3 f4 f5 z0 z1 z2
  have S7 := Lib.hid (show Sl.Sep W _ [curR W c, Q, L4.boxR g1 26 #[.string y.name, .slice y.a y.xs.length y.c, .int .i64 y.auto], L4.boxR g2 26 #[.string y.name, .slice y.a y.xs.length y.c, .int .i64 y.auto], Bag.bag y.rows] from L5.put_box5 (L5.put_box5 (L5.put_box5 (S6.out) 2 rfl 0 (.string y.name)) 2 rfl 1 (.slice y.a y.xs.length y.c)) 2 rfl 2 (.int .i64 y.auto))
  clear S6
  have f0 : World.cell? _ ⟨g1, 0, none⟩ = some (.string y.name) := Bag.cell_at S7.out 2 rfl 0 rfl
  have f1 : World.cell? _ ⟨g1, 1, none⟩ = some (.slice y.a y.xs.length y.c) := Bag.cell_at S7.out 2 rfl 1 rfl
  have f2 : World.cell? _ ⟨g1, 2, none⟩ = some (.int .i64 y.auto) := Bag.cell_at S7.out 2 rfl 2 rfl
  refine bodyPost_ret (v := .agg #[.string y.name, .slice y.a y.xs.length y.c, .int .i64 y.auto]) (by simp [results, Try.results80, go_sem, *]) rfl ?_
  clear f0 f1 f2
  have S8 := Lib.hid (show Sl.Sep W _ [curR W c, Q, Bag.bag y.rows] from Bag.take S7.out [0, 1, 4] (by rfl) (by decide))
  clear S7
  exact ⟨y, rfl, HN.out.fit, S8.out⟩
end Go.Proofs.Ytkfejjoehgipmaa.L6
