/-
  The exact laws' helpers for stores: a comparison of equal stores, marks and the look at the marks. Conditions: at most 2^20 fields and items. (Written by my program gen_l6q.py.)
-/
import Derived.Test.YtkfejjoehgipmaaTk
import Derived.Test.YtkfejjoehgipmaaL6La
import Derived.Test.YtkfejjoehgipmaaRst
namespace Go.Proofs.Ytkfejjoehgipmaa.L6
set_option maxRecDepth 100000
open L4 (K isK cmpK R inR encU)
open L5 (F isR isN cellsF encR eqR Small Wide markT marksF marksF_length)
open Go.ChangeShapes Go.WideShapes Go.ChangeAt Go.RowKit Mem Sl Ex L2 Sv Bag
set_option linter.unusedVariables false
set_option linter.unusedSimpArgs false

theorem con_at {xs : List LI} {k : Nat} {x : LI} (hx : xs[k]? = some x) : (conI xs)[k]? = some x.con := by unfold conI; rw [List.getElem?_map, hx]; rfl
theorem con_same {xs ys : List LI} (h : conI xs = conI ys) {k : Nat} {x : LI} (hx : xs[k]? = some x) : ∃ a c, ys[k]? = some ⟨x.k, a, c, x.l⟩ := by
  have h1 := con_at hx
  rw [h] at h1
  unfold conI at h1
  rw [List.getElem?_map, Option.map_eq_some_iff] at h1
  obtain ⟨y, hy, he⟩ := h1
  obtain ⟨k2, a, c, l2⟩ := y
  unfold LI.con at he
  simp only [It.mk.injEq] at he
  obtain ⟨rfl, rfl⟩ := he
  exact ⟨a, c, hy⟩

set_option maxHeartbeats 4000000 in
theorem eqItem_any (kd n : Int) (t : ByteArray) (ia ia2 : Option Addr) (ic ic2 : Nat) (l : List F) (hl : l.length ≤ 1048576) (w : World) (hr : Reads w w.heap.size ia (cellsF l)) (hr2 : Reads w w.heap.size ia2 (cellsF l)) :
    Calls Try.prog 98 #[.agg #[.int .i64 kd, .int .i64 n, .string t, .slice ia l.length ic], .agg #[.int .i64 kd, .int .i64 n, .string t, .slice ia2 l.length ic2]] w fun e w' => e = .returned (.bool true) ∧ Below w.heap.size w w' := by
  have HER := Lib.hid (fun w' (h : Below w.heap.size w w') => L5.eqRecord_any ia ia2 ic ic2 l (by omega) w' ((hr.below h).more h.size) ((hr2.below h).more h.size))
  have HEK := Lib.hid (fun w' => L4.eqKey_any ⟨kd, n, t⟩ w')
  unfold L4.K.v at HEK
  obtain ⟨N, hN⟩ : ∃ n, n = l.length := ⟨_, rfl⟩
  rw [← hN] at HER ⊢
  clear hN hr hr2 hl
  have S1 := Lib.hid (show Sl.Sep w ((w.alloc (.cells #[.int .i64 kd, .int .i64 n, .string t, .slice ia N ic] 40)).alloc (.cells #[.int .i64 kd, .int .i64 n, .string t, .slice ia2 N ic2] 40)) [L4.boxR w.heap.size 40 #[.int .i64 kd, .int .i64 n, .string t, .slice ia N ic], L4.boxR (w.heap.size + 1) 40 #[.int .i64 kd, .int .i64 n, .string t, .slice ia2 N ic2]] from L4.push_box (L4.push_box (Sl.Sep.start w) 40 #[.int .i64 kd, .int .i64 n, .string t, .slice ia N ic] (w.heap.size) (by simp)) 40 #[.int .i64 kd, .int .i64 n, .string t, .slice ia2 N ic2] (w.heap.size + 1) (by simp))
  obtain ⟨wa, hwa⟩ : ∃ u, u = ((w.alloc (.cells #[.int .i64 kd, .int .i64 n, .string t, .slice ia N ic] 40)).alloc (.cells #[.int .i64 kd, .int .i64 n, .string t, .slice ia2 N ic2] 40)) := ⟨_, rfl⟩
  rw [← hwa] at S1
  go_enter Try.func98, Try.ntmps98
  go_upto_region 1 with fail
  rw [← hwa]
  clear hwa
  have f0 : World.cell? _ ⟨w.heap.size, 0, none⟩ = some (.int .i64 kd) := Bag.cell_at S1.out 0 rfl 0 rfl
  have f1 : World.cell? _ ⟨w.heap.size, 1, none⟩ = some (.int .i64 n) := Bag.cell_at S1.out 0 rfl 1 rfl
  have f2 : World.cell? _ ⟨w.heap.size, 2, none⟩ = some (.string t) := Bag.cell_at S1.out 0 rfl 2 rfl
  have f3 : World.cell? _ ⟨w.heap.size, 3, none⟩ = some (.slice ia N ic) := Bag.cell_at S1.out 0 rfl 3 rfl
  have f4 : World.cell? _ ⟨w.heap.size + 1, 0, none⟩ = some (.int .i64 kd) := Bag.cell_at S1.out 1 rfl 0 rfl
  have f5 : World.cell? _ ⟨w.heap.size + 1, 1, none⟩ = some (.int .i64 n) := Bag.cell_at S1.out 1 rfl 1 rfl
  have f6 : World.cell? _ ⟨w.heap.size + 1, 2, none⟩ = some (.string t) := Bag.cell_at S1.out 1 rfl 2 rfl
  have f7 : World.cell? _ ⟨w.heap.size + 1, 3, none⟩ = some (.slice ia2 N ic2) := Bag.cell_at S1.out 1 rfl 3 rfl
  go_wp2_with fail
  go_at_call 46
  refine (HEK.out _).mono ?_
  rintro e w1 ⟨rfl, hb⟩
  clear f0 f1 f2 f3 f4 f5 f6 f7
  have S2 := Lib.hid (show Sl.Sep w _ [L4.boxR w.heap.size 40 #[.int .i64 kd, .int .i64 n, .string t, .slice ia N ic], L4.boxR (w.heap.size + 1) 40 #[.int .i64 kd, .int .i64 n, .string t, .slice ia2 N ic2]] from S1.out.keep hb)
  clear S1
  clear hb
  have f0 : World.cell? _ ⟨w.heap.size, 0, none⟩ = some (.int .i64 kd) := Bag.cell_at S2.out 0 rfl 0 rfl
  have f1 : World.cell? _ ⟨w.heap.size, 1, none⟩ = some (.int .i64 n) := Bag.cell_at S2.out 0 rfl 1 rfl
  have f2 : World.cell? _ ⟨w.heap.size, 2, none⟩ = some (.string t) := Bag.cell_at S2.out 0 rfl 2 rfl
  have f3 : World.cell? _ ⟨w.heap.size, 3, none⟩ = some (.slice ia N ic) := Bag.cell_at S2.out 0 rfl 3 rfl
  have f4 : World.cell? _ ⟨w.heap.size + 1, 0, none⟩ = some (.int .i64 kd) := Bag.cell_at S2.out 1 rfl 0 rfl
  have f5 : World.cell? _ ⟨w.heap.size + 1, 1, none⟩ = some (.int .i64 n) := Bag.cell_at S2.out 1 rfl 1 rfl
  have f6 : World.cell? _ ⟨w.heap.size + 1, 2, none⟩ = some (.string t) := Bag.cell_at S2.out 1 rfl 2 rfl
  have f7 : World.cell? _ ⟨w.heap.size + 1, 3, none⟩ = some (.slice ia2 N ic2) := Bag.cell_at S2.out 1 rfl 3 rfl
  go_wp2_with fail
  go_at_call 41
  refine (HER.out _ S2.out.old).mono ?_
  rintro e w2 ⟨rfl, hb⟩
  clear f0 f1 f2 f3 f4 f5 f6 f7
  have S3 := Lib.hid (show Sl.Sep w _ [L4.boxR w.heap.size 40 #[.int .i64 kd, .int .i64 n, .string t, .slice ia N ic], L4.boxR (w.heap.size + 1) 40 #[.int .i64 kd, .int .i64 n, .string t, .slice ia2 N ic2]] from S2.out.keep hb)
  clear S2
  clear hb
  have f0 : World.cell? _ ⟨w.heap.size, 0, none⟩ = some (.int .i64 kd) := Bag.cell_at S3.out 0 rfl 0 rfl
  have f1 : World.cell? _ ⟨w.heap.size, 1, none⟩ = some (.int .i64 n) := Bag.cell_at S3.out 0 rfl 1 rfl
  have f2 : World.cell? _ ⟨w.heap.size, 2, none⟩ = some (.string t) := Bag.cell_at S3.out 0 rfl 2 rfl
  have f3 : World.cell? _ ⟨w.heap.size, 3, none⟩ = some (.slice ia N ic) := Bag.cell_at S3.out 0 rfl 3 rfl
  have f4 : World.cell? _ ⟨w.heap.size + 1, 0, none⟩ = some (.int .i64 kd) := Bag.cell_at S3.out 1 rfl 0 rfl
  have f5 : World.cell? _ ⟨w.heap.size + 1, 1, none⟩ = some (.int .i64 n) := Bag.cell_at S3.out 1 rfl 1 rfl
  have f6 : World.cell? _ ⟨w.heap.size + 1, 2, none⟩ = some (.string t) := Bag.cell_at S3.out 1 rfl 2 rfl
  have f7 : World.cell? _ ⟨w.heap.size + 1, 3, none⟩ = some (.slice ia2 N ic2) := Bag.cell_at S3.out 1 rfl 3 rfl
  go_wp2_with fail
  go_ret
  exact ⟨rfl, S3.out.old⟩
set_option maxHeartbeats 4000000 in
theorem eqItemS_any (a a2 : Option Addr) (c c2 : Nat) (xs xs2 : List LI) (hc : conI xs = conI xs2) (hl : xs.length ≤ 1048576) (hf : ∀ x ∈ conI xs, FitI x) (w : World) (hr : Reads w w.heap.size a (cellsI xs)) (hx : RowsRd w w.heap.size (rowsI xs)) (hr2 : Reads w w.heap.size a2 (cellsI xs2)) (hx2 : RowsRd w w.heap.size (rowsI xs2)) :
    Calls Try.prog 51 #[.slice a xs.length c, .slice a2 xs2.length c2] w fun e w' => e = .returned (.bool true) ∧ Below w.heap.size w w' := by
  have HR := Lib.hid (fun w' (h : Below w.heap.size w w') => hr.below h)
  have HR2 := Lib.hid (fun w' (h : Below w.heap.size w w') => hr2.below h)
  have HX := Lib.hid (fun w' (h : Below w.heap.size w w') => (hx.below h).more h.size)
  have HX2 := Lib.hid (fun w' (h : Below w.heap.size w w') => (hx2.below h).more h.size)
  have HF := Lib.hid hf
  have HS := Lib.hid hc
  have hlen : xs2.length = xs.length := by have h := congrArg List.length hc; simp only [conI_length] at h; exact h.symm
  obtain ⟨N, hN⟩ : ∃ n, n = xs.length := ⟨_, rfl⟩
  rw [hlen, ← hN]
  rw [← hN] at hl
  have hl' : (N : Int) ≤ 1048576 := by omega
  have HN := Lib.hid hN
  clear hN hr hr2 hx hx2 hf hc hlen
  have S1 := Lib.hid (show Sl.Sep w w [] from Sl.Sep.start w)
  go_enter Try.func51, Try.ntmps51
  go_wp2_with fail
  go_loopw [5] (fun i wr => ∃ k : Nat, k ≤ N ∧ i = .int .i64 k ∧ Hid (Sl.Sep w wr [])) (fun i _ => N - (intOf i).toNat)
  case atStart => exact ⟨0, Nat.zero_le _, rfl, S1.out⟩
  case round =>
    obtain ⟨k, hk, rfl, hrel⟩ := hrel
    have S2 := Lib.hid hrel.out
    clear hrel S1
    by_cases hlt : (k : Int) < (N : Int)
    · skip
      have hkl : k < xs.length := by have := HN.out; omega
      obtain ⟨ad, x, rfl, hx⟩ := readsI_some (HR.out _ S2.out.old) k hkl
      obtain ⟨⟨kd, n, t⟩, ia, ic, l⟩ := x
      obtain ⟨ia2, ic2, hx2⟩ := con_same HS.out hx
      try dsimp only at hx2
      obtain ⟨ad2, x_, rfl, hx_⟩ := readsI_some (HR2.out _ S2.out.old) k (List.getElem?_eq_some_iff.1 hx2).1
      clear hx_ x_
      have HK := Lib.hid (fun w' (h : Below w.heap.size w w') => readsI_at (HR.out _ h) k _ hx)
      have HK2 := Lib.hid (fun w' (h : Below w.heap.size w w') => readsI_at (HR2.out _ h) k _ hx2)
      try dsimp only at HK HK2
      have HEQ := Lib.hid (fun w' (h : Below w.heap.size w w') => eqItem_any kd n t ia ia2 ic ic2 l (fit_at HF.out hx).len w' (((HX.out _ h).at_ (rowsI_mem hx)).reads) (((HX2.out _ h).at_ (rowsI_mem hx2)).reads))
      clear hx hx2
      go_upto_region 6 with fail
      refine wp_region_held_drew (S := (fun w' => World.cell? w' (ad.add (k * 4)) = some (.int .i64 kd) ∧ World.cell? w' (⟨(ad.add (k * 4)).block, (ad.add (k * 4)).off + 1, none⟩) = some (.int .i64 n) ∧ World.cell? w' (⟨(ad.add (k * 4)).block, (ad.add (k * 4)).off + 2, none⟩) = some (.string t) ∧ World.cell? w' (⟨(ad.add (k * 4)).block, (ad.add (k * 4)).off + 3, none⟩) = some (.slice ia l.length ic) ∧ World.cell? w' (ad2.add (k * 4)) = some (.int .i64 kd) ∧ World.cell? w' (⟨(ad2.add (k * 4)).block, (ad2.add (k * 4)).off + 1, none⟩) = some (.int .i64 n) ∧ World.cell? w' (⟨(ad2.add (k * 4)).block, (ad2.add (k * 4)).off + 2, none⟩) = some (.string t) ∧ World.cell? w' (⟨(ad2.add (k * 4)).block, (ad2.add (k * 4)).off + 3, none⟩) = some (.slice ia2 l.length ic2))) (by kernel_rfl) ⟨(HK.out _ S2.out.old).1, (HK.out _ S2.out.old).2.1, (HK.out _ S2.out.old).2.2.1, (HK.out _ S2.out.old).2.2.2, (HK2.out _ S2.out.old).1, (HK2.out _ S2.out.old).2.1, (HK2.out _ S2.out.old).2.2.1, (HK2.out _ S2.out.old).2.2.2⟩ (fun hS => ?_)
      have S3 := Lib.hid (show Sl.Sep w _ [] from Bag.drew1 S2.out)
      clear S2
      generalize World.drew _ = w1 at hS S3 ⊢
      refine tk 0 rfl ?_
      try simp only [zp0, zp1, zp2, zp3, zp4]
      refine tk 1 rfl ?_
      try simp only [zp0, zp1, zp2, zp3, zp4]
      refine tk 2 rfl ?_
      try simp only [zp0, zp1, zp2, zp3, zp4]
      refine tk 3 rfl ?_
      try simp only [zp0, zp1, zp2, zp3, zp4]
      refine tk 4 rfl ?_
      try simp only [zp0, zp1, zp2, zp3, zp4]
      refine tk 5 rfl ?_
      try simp only [zp0, zp1, zp2, zp3, zp4]
      refine tk 6 rfl ?_
      try simp only [zp0, zp1, zp2, zp3, zp4]
      refine tk 7 rfl ?_
      try simp only [zp0, zp1, zp2, zp3, zp4]
      refine Reg.one_op (i := 8) rfl (by kernel_rfl) (fun K hK => ?_)
      go_simp
      go_at_call 98
      refine (HEQ.out _ S3.out.old).mono ?_
      rintro e w2 ⟨rfl, hb⟩
      have S4 := Lib.hid (show Sl.Sep w _ [] from S3.out.keep hb)
      clear S3
      clear hb
      go_wp2_with fail
      refine hK.out _ _ ⟨(HK.out _ S4.out.old).1, (HK.out _ S4.out.old).2.1, (HK.out _ S4.out.old).2.2.1, (HK.out _ S4.out.old).2.2.2, (HK2.out _ S4.out.old).1, (HK2.out _ S4.out.old).2.1, (HK2.out _ S4.out.old).2.2.1, (HK2.out _ S4.out.old).2.2.2⟩ (fun hS => ?_)
      clear hK K
      try simp only [zp0, zp1, zp2, zp3, zp4]
      refine tk 9 rfl ?_
      try simp only [zp0, zp1, zp2, zp3, zp4]
      refine wpAnyH_done (by kernel_rfl) ?_ _
      have f0 : World.cell? _ (ad.add (k * 4)) = some (.int .i64 kd) := (HK.out _ S4.out.old).1
      have f1 : World.cell? _ (⟨(ad.add (k * 4)).block, (ad.add (k * 4)).off + 1, none⟩) = some (.int .i64 n) := (HK.out _ S4.out.old).2.1
      have f2 : World.cell? _ (⟨(ad.add (k * 4)).block, (ad.add (k * 4)).off + 2, none⟩) = some (.string t) := (HK.out _ S4.out.old).2.2.1
      have f3 : World.cell? _ (⟨(ad.add (k * 4)).block, (ad.add (k * 4)).off + 3, none⟩) = some (.slice ia l.length ic) := (HK.out _ S4.out.old).2.2.2
      have f4 : World.cell? _ (ad2.add (k * 4)) = some (.int .i64 kd) := (HK2.out _ S4.out.old).1
      have f5 : World.cell? _ (⟨(ad2.add (k * 4)).block, (ad2.add (k * 4)).off + 1, none⟩) = some (.int .i64 n) := (HK2.out _ S4.out.old).2.1
      have f6 : World.cell? _ (⟨(ad2.add (k * 4)).block, (ad2.add (k * 4)).off + 2, none⟩) = some (.string t) := (HK2.out _ S4.out.old).2.2.1
      have f7 : World.cell? _ (⟨(ad2.add (k * 4)).block, (ad2.add (k * 4)).off + 3, none⟩) = some (.slice ia2 l.length ic2) := (HK2.out _ S4.out.old).2.2.2
      go_wp2_with fail
      go_roundw
      case rel => exact ⟨k + 1, by omega, by go_num, S4.out⟩
      case measure => simp [intOf]; omega
    · skip
      go_wp2_with fail
      go_ret
      exact ⟨rfl, S2.out.old⟩
set_option maxHeartbeats 4000000 in
theorem eqStore_any (y y2 : LS) (hc : y.con = y2.con) (hf : FitS y.con) (w : World) (hr : RowsRd w w.heap.size y.rows) (hr2 : RowsRd w w.heap.size y2.rows) :
    Calls Try.prog 35 #[y.v, y2.v] w fun e w' => e = .returned (.bool true) ∧ Below w.heap.size w w' := by
  have HEI := Lib.hid (fun w' (h : Below w.heap.size w w') => eqItemS_any y.a y2.a y.c y2.c y.xs y2.xs (by have h1 := congrArg S6.items hc; exact h1) (by have h1 := hf.len; simpa [LS.con] using h1) hf.items w' (((LS.outer hr).below h).more h.size) (((LS.inner hr).below h).more h.size) (((LS.outer hr2).below h).more h.size) (((LS.inner hr2).below h).more h.size))
  obtain ⟨name, a, c, xs, auto⟩ := y
  obtain ⟨name2, a2, c2, xs2, auto2⟩ := y2
  unfold LS.con at hc
  simp only [S6.mk.injEq] at hc
  obtain ⟨rfl, hi, rfl⟩ := hc
  have hlen : xs2.length = xs.length := by have h := congrArg List.length hi; simp only [conI_length] at h; exact h.symm
  unfold LS.v LS.cells
  dsimp only at HEI ⊢
  rw [hlen] at HEI ⊢
  obtain ⟨N, hN⟩ : ∃ n, n = xs.length := ⟨_, rfl⟩
  rw [← hN] at HEI ⊢
  clear hN hlen hi hr hr2 hf
  have S1 := Lib.hid (show Sl.Sep w ((w.alloc (.cells #[.string name, .slice a N c, .int .i64 auto] 26)).alloc (.cells #[.string name, .slice a2 N c2, .int .i64 auto] 26)) [L4.boxR w.heap.size 26 #[.string name, .slice a N c, .int .i64 auto], L4.boxR (w.heap.size + 1) 26 #[.string name, .slice a2 N c2, .int .i64 auto]] from L4.push_box (L4.push_box (Sl.Sep.start w) 26 #[.string name, .slice a N c, .int .i64 auto] (w.heap.size) (by simp)) 26 #[.string name, .slice a2 N c2, .int .i64 auto] (w.heap.size + 1) (by simp))
  obtain ⟨wa, hwa⟩ : ∃ u, u = ((w.alloc (.cells #[.string name, .slice a N c, .int .i64 auto] 26)).alloc (.cells #[.string name, .slice a2 N c2, .int .i64 auto] 26)) := ⟨_, rfl⟩
  rw [← hwa] at S1
  go_enter Try.func35, Try.ntmps35
  go_upto_region 1 with fail
  rw [← hwa]
  clear hwa
  have f0 : World.cell? _ ⟨w.heap.size, 0, none⟩ = some (.string name) := Bag.cell_at S1.out 0 rfl 0 rfl
  have f1 : World.cell? _ ⟨w.heap.size, 1, none⟩ = some (.slice a N c) := Bag.cell_at S1.out 0 rfl 1 rfl
  have f2 : World.cell? _ ⟨w.heap.size, 2, none⟩ = some (.int .i64 auto) := Bag.cell_at S1.out 0 rfl 2 rfl
  have f3 : World.cell? _ ⟨w.heap.size + 1, 0, none⟩ = some (.string name) := Bag.cell_at S1.out 1 rfl 0 rfl
  have f4 : World.cell? _ ⟨w.heap.size + 1, 1, none⟩ = some (.slice a2 N c2) := Bag.cell_at S1.out 1 rfl 1 rfl
  have f5 : World.cell? _ ⟨w.heap.size + 1, 2, none⟩ = some (.int .i64 auto) := Bag.cell_at S1.out 1 rfl 2 rfl
  go_wp2_with fail
  go_at_call 51
  refine (HEI.out _ S1.out.old).mono ?_
  rintro e w1 ⟨rfl, hb⟩
  clear f0 f1 f2 f3 f4 f5
  have S2 := Lib.hid (show Sl.Sep w _ [L4.boxR w.heap.size 26 #[.string name, .slice a N c, .int .i64 auto], L4.boxR (w.heap.size + 1) 26 #[.string name, .slice a2 N c2, .int .i64 auto]] from S1.out.keep hb)
  clear S1
  clear hb
  have f0 : World.cell? _ ⟨w.heap.size, 0, none⟩ = some (.string name) := Bag.cell_at S2.out 0 rfl 0 rfl
  have f1 : World.cell? _ ⟨w.heap.size, 1, none⟩ = some (.slice a N c) := Bag.cell_at S2.out 0 rfl 1 rfl
  have f2 : World.cell? _ ⟨w.heap.size, 2, none⟩ = some (.int .i64 auto) := Bag.cell_at S2.out 0 rfl 2 rfl
  have f3 : World.cell? _ ⟨w.heap.size + 1, 0, none⟩ = some (.string name) := Bag.cell_at S2.out 1 rfl 0 rfl
  have f4 : World.cell? _ ⟨w.heap.size + 1, 1, none⟩ = some (.slice a2 N c2) := Bag.cell_at S2.out 1 rfl 1 rfl
  have f5 : World.cell? _ ⟨w.heap.size + 1, 2, none⟩ = some (.int .i64 auto) := Bag.cell_at S2.out 1 rfl 2 rfl
  go_wp2_with fail
  go_ret
  exact ⟨rfl, S2.out.old⟩
/-! marks -/
def mark1 (k : Int) (x : LI) : LI := ⟨⟨k, k + 1, markT (k + 2)⟩, x.a, x.c, marksF (k + 3) x.l.length⟩
def markI : Int → List LI → List LI
  | _, [] => []
  | k, x :: xs => mark1 k x :: markI (k + 3 + 2 * (x.l.length : Int)) xs
def endI : Int → List LI → Int
  | k, [] => k
  | k, x :: xs => endI (k + 3 + 2 * (x.l.length : Int)) xs
theorem markI_length : ∀ (k : Int) (xs : List LI), (markI k xs).length = xs.length
  | _, [] => rfl
  | k, x :: xs => by unfold markI; rw [List.length_cons, List.length_cons, markI_length]
theorem endI_snoc : ∀ (k : Int) (xs : List LI) (x : LI), endI k (xs ++ [x]) = endI k xs + 3 + 2 * (x.l.length : Int)
  | _, [], _ => rfl
  | k, y :: xs, x => endI_snoc _ xs x
theorem markI_snoc : ∀ (k : Int) (xs : List LI) (x : LI), markI k (xs ++ [x]) = markI k xs ++ [mark1 (endI k xs) x]
  | _, [], _ => rfl
  | k, y :: xs, x => by
    show mark1 k y :: markI _ (xs ++ [x]) = _
    rw [markI_snoc _ xs x]
    rfl
theorem mark1_fp (k : Int) (x : LI) : (mark1 k x).row.fp = x.row.fp := by
  unfold mark1 LI.row RowS.fp
  cases x.a <;> rfl
theorem markI_fp : ∀ (k : Int) (xs : List LI), (rowsI (markI k xs)).flatMap RowS.fp = (rowsI xs).flatMap RowS.fp
  | _, [] => rfl
  | k, x :: xs => by
    show ((mark1 k x).row :: rowsI (markI _ xs)).flatMap RowS.fp = (x.row :: rowsI xs).flatMap RowS.fp
    rw [List.flatMap_cons, List.flatMap_cons, mark1_fp, markI_fp _ xs]
theorem markB_fp (a : Option Addr) (c : Nat) (k : Int) (xs : List LI) : (bag (rowI a c (markI k xs) :: rowsI (markI k xs))).fp = (bag (rowI a c xs :: rowsI xs)).fp := by
  show (rowI a c (markI k xs) :: rowsI (markI k xs)).flatMap RowS.fp = (rowI a c xs :: rowsI xs).flatMap RowS.fp
  rw [List.flatMap_cons, List.flatMap_cons, markI_fp]
  congr 1
  unfold rowI RowS.fp
  cases a <;> rfl
theorem endI_range : ∀ (xs : List LI) (k : Int), (∀ x ∈ xs, x.l.length ≤ 1048576) → k ≤ endI k xs ∧ endI k xs ≤ k + (xs.length : Int) * 2097155
  | [], k, _ => by simp [endI]
  | x :: xs, k, h => by
    have h1 := endI_range xs (k + 3 + 2 * (x.l.length : Int)) (fun y hy => h y (List.mem_cons_of_mem _ hy))
    have h2 := h x (List.mem_cons_self ..)
    unfold endI
    rw [List.length_cons]
    omega
theorem markI_at {xs : List LI} {j : Nat} {x : LI} (k : Int) (hx : xs[j]? = some x) : (markI k xs)[j]? = some (mark1 (endI k (xs.take j)) x) := by
  obtain ⟨hj, rfl⟩ := List.getElem?_eq_some_iff.1 hx
  have e : ∀ (ys zs : List LI) (k : Int), markI k (ys ++ zs) = markI k ys ++ markI (endI k ys) zs := by
    intro ys
    induction ys with
    | nil => intro zs k; rfl
    | cons y ys ih => intro zs k; show mark1 k y :: markI _ (ys ++ zs) = _; rw [ih]; rfl
  have h2 : xs = xs.take j ++ (xs[j] :: xs.drop (j + 1)) := by rw [List.getElem_cons_drop, List.take_append_drop]
  have h3 : (xs.take j).length = j := by rw [List.length_take]; omega
  have h4 : ∀ zs, zs = xs.take j ++ (xs[j] :: xs.drop (j + 1)) → (markI k zs)[j]? = some (mark1 (endI k (xs.take j)) xs[j]) := fun zs hz => by
    rw [hz, e, List.getElem?_append_right (by rw [markI_length, h3]; exact Nat.le_refl _), markI_length, h3, Nat.sub_self]
    rfl
  exact h4 xs h2
theorem end_next {xs : List LI} {j : Nat} {x : LI} (k : Int) (hx : xs[j]? = some x) : endI k (xs.take (j + 1)) = endI k (xs.take j) + 3 + 2 * (x.l.length : Int) := by
  obtain ⟨hj, rfl⟩ := List.getElem?_eq_some_iff.1 hx
  rw [List.take_succ_eq_append_getElem hj, endI_snoc]
theorem mark_next {xs : List LI} {j : Nat} {x : LI} (k : Int) (hx : xs[j]? = some x) : markI k (xs.take (j + 1)) = markI k (xs.take j) ++ [mark1 (endI k (xs.take j)) x] := by
  obtain ⟨hj, rfl⟩ := List.getElem?_eq_some_iff.1 hx
  rw [List.take_succ_eq_append_getElem hj, markI_snoc]
theorem row_last (ds es : List LI) (x : LI) : (rowsI ds ++ rowsI (x :: es)).Perm ((rowsI ds ++ rowsI es) ++ [x.row]) := by
  show (rowsI ds ++ (x.row :: rowsI es)).Perm _
  rw [List.append_assoc]
  exact List.Perm.append_left _ (List.perm_append_comm (l₁ := [x.row]))
theorem row_back (ds es : List LI) (z : LI) : ((rowsI ds ++ rowsI es) ++ [z.row]).Perm (rowsI (ds ++ [z]) ++ rowsI es) := by
  rw [rowsI_append, List.append_assoc, List.append_assoc]
  exact List.Perm.append_left _ List.perm_append_comm
set_option maxHeartbeats 8000000 in
theorem markItemS_sep (a : Option Addr) (c : Nat) (xs : List LI) (k : Int) (W w : World) (S : Sl.Sep W w [bag (rowI a c xs :: rowsI xs), Run.restL W w (bag (rowI a c xs :: rowsI xs)).fp]) (hl : xs.length ≤ 1048576) (hlen : ∀ x ∈ xs, x.l.length ≤ 1048576) (hk0 : 0 < k) (hk1 : k ≤ 1099511627776) :
    Calls Try.prog 52 #[.slice a xs.length c, .int .i64 k] w fun e w' => e = .returned (.int .i64 (endI k xs)) ∧ Sl.Sep W w' [bag (rowI a c (markI k xs) :: rowsI (markI k xs)), Run.restL W w (bag (rowI a c xs :: rowsI xs)).fp] := by
  have HLEN := Lib.hid hlen
  obtain ⟨fps, hfps⟩ : ∃ f, f = (bag (rowI a c xs :: rowsI xs)).fp := ⟨_, rfl⟩
  rw [← hfps] at S ⊢
  clear hfps
  rcases (S.is 0 _ rfl).own (rowI a c xs) (List.mem_cons_self ..) |>.form with ⟨ha, hn0, -, hc0⟩ | ⟨g, hg, -, -, hnc, -⟩
  · have ha' : a = none := ha
    have hc' : c = 0 := hc0
    have hx : xs = [] := List.eq_nil_of_length_eq_zero hn0
    subst hx
    have H := Lib.hid S
    clear S
    go_enter Try.func52, Try.ntmps52
    go_wp2_with fail
    refine wp_loop_rounds 1 ?_
    rw [rounds_succ]
    go_wp2_with fail
    go_ret
    exact ⟨rfl, H.out⟩
  have hg' : a = some ⟨g, 0, none⟩ := hg
  subst hg'
  obtain ⟨N, hN⟩ : ∃ n, n = xs.length := ⟨_, rfl⟩
  rw [← hN] at hl ⊢
  have hl' : (N : Int) ≤ 1048576 := by omega
  have HN := Lib.hid hN
  have HK1 := Lib.hid hk1
  have S1 := Lib.hid S
  clear hg hN S hnc hlen
  have S2 := Lib.hid (show Sl.Sep W _ [Bag.bag ([rowI (some ⟨g, 0, none⟩) c xs] ++ rowsI xs), Run.restL W w fps] from S1.out)
  clear S1
  have S3 := Lib.hid (show Sl.Sep W _ [Bag.bag ([rowI (some ⟨g, 0, none⟩) c xs]), Run.restL W w fps, Bag.bag (rowsI xs)] from Bag.bag_split S2.out 0 rfl)
  clear S2
  have S4 := Lib.hid (show Sl.Sep W _ [Sv.ownV 40 4 (some ⟨g, 0, none⟩) c N (cellsI (markI k [] ++ xs.drop 0)), Run.restL W w fps, Bag.bag (rowsI xs)] from (by have h := Bag.one_of_bag S3.out 0 (r := rowI (some ⟨g, 0, none⟩) c xs) rfl; unfold RowS.res rowI at h; dsimp only at h; rw [← HN.out] at h; exact h))
  clear S3
  have S5 := Lib.hid (show Sl.Sep W _ [Sv.ownV 40 4 (some ⟨g, 0, none⟩) c N (cellsI (markI k [] ++ xs.drop 0)), Bag.bag (rowsI (markI k []) ++ rowsI (xs.drop 0)), Run.restL W w fps] from Bag.take S4.out [0, 2, 1] (by rfl) (by decide))
  clear S4
  go_enter Try.func52, Try.ntmps52
  go_wp2_with fail
  go_loopw [1, 5] (fun v i wr => ∃ (j : Nat) (m : Int), j ≤ N ∧ i = .int .i64 j ∧ v = .int .i64 m ∧ k ≤ m ∧ m ≤ k + (j : Int) * 2097155 ∧ Hid (m = endI k (xs.take j) ∧ Sl.Sep W wr [Sv.ownV 40 4 (some ⟨g, 0, none⟩) c N (cellsI (markI k (xs.take j) ++ xs.drop j)), Bag.bag (rowsI (markI k (xs.take j)) ++ rowsI (xs.drop j)), Run.restL W w fps])) (fun _ i _ => N - (intOf i).toNat)
  case atStart => exact ⟨0, k, Nat.zero_le _, rfl, rfl, by omega, by omega, And.intro rfl S5.out⟩
  case round =>
    obtain ⟨j, m, hj, rfl, rfl, hm0, hm1, hrel⟩ := hrel
    have HM := Lib.hid hrel.out.1
    have S6 := Lib.hid hrel.out.2
    clear hrel S5
    by_cases hlt : (j : Int) < (N : Int)
    · skip
      have hjl : j < xs.length := by have := HN.out; omega
      obtain ⟨x, hx⟩ : ∃ x, xs[j]? = some x := ⟨_, List.getElem?_eq_getElem hjl⟩
      have HXL := Lib.hid (HLEN.out x (List.mem_of_getElem? hx))
      have HEN := Lib.hid (end_next k hx)
      have HMN := Lib.hid (mark_next k hx)
      have HDR := Lib.hid (show xs.drop j = x :: xs.drop (j + 1) from by obtain ⟨h1, rfl⟩ := List.getElem?_eq_some_iff.1 hx; exact (List.getElem_cons_drop ..).symm)
      clear hx
      obtain ⟨⟨kd, n, t⟩, ia, ic, l⟩ := x
      dsimp only at HXL HEN
      rw [← HM.out] at HEN HMN
      have hxl : (l.length : Int) ≤ 1048576 := by have := HXL.out; omega
      have hmb : m ≤ 4611686018427387904 - 2097155 := by have := HK1.out; omega
      have HDL := Lib.hid (show (cellsI (markI k (xs.take j))).length = j * 4 by rw [cellsI_length, markI_length, List.length_take]; omega)
      have HDE := Lib.hid (show (rowsI (markI k (xs.take j)) ++ rowsI (xs.drop j)).Perm ((rowsI (markI k (xs.take j)) ++ rowsI (xs.drop (j + 1))) ++ [(LI.mk ⟨kd, n, t⟩ ia ic l).row]) from by rw [HDR.out]; exact row_last _ _ _)
      obtain ⟨R0, hR0⟩ : ∃ R0, R0 = cellsI (xs.drop (j + 1)) := ⟨_, rfl⟩
      obtain ⟨D0, hD0⟩ : ∃ D0, D0 = cellsI (markI k (xs.take j)) := ⟨_, rfl⟩
      have HR0 := Lib.hid hR0
      have HD0 := Lib.hid hD0
      rw [← hD0] at HDL
      clear hR0 hD0
      have S7 := Lib.hid (show Sl.Sep W _ [Sv.ownV 40 4 (some ⟨g, 0, none⟩) c N (D0 ++ (.int .i64 kd :: .int .i64 n :: .string t :: .slice ia l.length ic :: R0)), Bag.bag (rowsI (markI k (xs.take j)) ++ rowsI (xs.drop j)), Run.restL W w fps] from (by have h := S6.out; rw [show cellsI (markI k (xs.take j) ++ xs.drop j) = D0 ++ (.int .i64 kd :: .int .i64 n :: .string t :: .slice ia l.length ic :: R0) from by rw [cellsI_append, HDR.out, cellsI_cons, ← HR0.out, ← HD0.out]] at h; exact h))
      clear S6
      have q0 := (Sv.own_at S7.out 0 rfl).cell (j * 4) (by rw [List.length_append, HDL.out]; simp <;> omega)
      have z0 := (Sv.own_at S7.out 0 rfl).free (j * 4)
      have q1 := (Sv.own_at S7.out 0 rfl).cell (j * 4 + 1) (by rw [List.length_append, HDL.out]; simp <;> omega)
      have z1 := (Sv.own_at S7.out 0 rfl).free (j * 4 + 1)
      go_wp2_with fail
      clear q0 z0 q1 z1
      have HOV := Lib.hid (show Run.over (D0 ++ (.int .i64 kd :: .int .i64 n :: .string t :: .slice ia l.length ic :: R0)) (j * 4) [.int .i64 m, .int .i64 (m + 1)] = D0 ++ (.int .i64 m :: .int .i64 (m + 1) :: .string t :: .slice ia l.length ic :: R0) from by rw [show D0 ++ (.int .i64 kd :: .int .i64 n :: .string t :: .slice ia l.length ic :: R0) = D0 ++ ([.int .i64 kd, .int .i64 n] ++ (.string t :: .slice ia l.length ic :: R0)) from by simp, Run.over_mid D0 (.string t :: .slice ia l.length ic :: R0) [.int .i64 m, .int .i64 (m + 1)] [.int .i64 kd, .int .i64 n] (j * 4) (by simp [HDL.out]) rfl]; simp)
      have S8 := Lib.hid (show Sl.Sep W ((wr.setCell ⟨g, j * 4, none⟩ (.int .i64 m)).setCell ⟨g, j * 4 + 1, none⟩ (.int .i64 (m + 1))) [Sv.ownV 40 4 (some ⟨g, 0, none⟩) c N (D0 ++ (.int .i64 m :: .int .i64 (m + 1) :: .string t :: .slice ia l.length ic :: R0)), Bag.bag (rowsI (markI k (xs.take j)) ++ rowsI (xs.drop j)), Run.restL W w fps] from (by have h := Run.put_run S7.out 0 rfl (j * 4) [.int .i64 m, .int .i64 (m + 1)] (by rw [List.length_append, HDL.out]; simp <;> omega); rw [HOV.out] at h; exact h))
      clear S7
      clear HOV
      have HMT := Lib.hid (fun w' => L5.markText_any (m + 2) (by omega) (by omega) w')
      have e2 : m + 1 + 1 = m + 2 := by omega
      try simp only [e2]
      go_at_call 99
      refine (HMT.out _).mono ?_
      rintro e w1 ⟨rfl, hb⟩
      have S9 := Lib.hid (show Sl.Sep W _ [Sv.ownV 40 4 (some ⟨g, 0, none⟩) c N (D0 ++ (.int .i64 m :: .int .i64 (m + 1) :: .string t :: .slice ia l.length ic :: R0)), Bag.bag (rowsI (markI k (xs.take j)) ++ rowsI (xs.drop j)), Run.restL W w fps] from S8.out.keep hb)
      clear S8
      clear hb
      have q2 := (Sv.own_at S9.out 0 rfl).cell (j * 4 + 2) (by rw [List.length_append, HDL.out]; simp <;> omega)
      have z2 := (Sv.own_at S9.out 0 rfl).free (j * 4 + 2)
      go_upto_region 9 with fail
      clear q2 z2
      have HOV := Lib.hid (show Run.over (D0 ++ (.int .i64 m :: .int .i64 (m + 1) :: .string t :: .slice ia l.length ic :: R0)) (j * 4 + 2) [.string (markT (m + 2))] = D0 ++ (.int .i64 m :: .int .i64 (m + 1) :: .string (markT (m + 2)) :: .slice ia l.length ic :: R0) from by rw [show D0 ++ (.int .i64 m :: .int .i64 (m + 1) :: .string t :: .slice ia l.length ic :: R0) = (D0 ++ ([.int .i64 m, .int .i64 (m + 1)] : List Value)) ++ ([.string t] ++ (.slice ia l.length ic :: R0)) from by simp, Run.over_mid (D0 ++ ([.int .i64 m, .int .i64 (m + 1)] : List Value)) (.slice ia l.length ic :: R0) [.string (markT (m + 2))] [.string t] (j * 4 + 2) (by simp [HDL.out]) rfl]; simp)
      have S10 := Lib.hid (show Sl.Sep W (w1.setCell ⟨g, j * 4 + 2, none⟩ (.string (markT (m + 2)))) [Sv.ownV 40 4 (some ⟨g, 0, none⟩) c N (D0 ++ (.int .i64 m :: .int .i64 (m + 1) :: .string (markT (m + 2)) :: .slice ia l.length ic :: R0)), Bag.bag (rowsI (markI k (xs.take j)) ++ rowsI (xs.drop j)), Run.restL W w fps] from (by have h := Run.put_run S9.out 0 rfl (j * 4 + 2) [.string (markT (m + 2))] (by rw [List.length_append, HDL.out]; simp <;> omega); rw [HOV.out] at h; exact h))
      clear S9
      clear HOV
      have e3 : m + 2 + 1 = m + 3 := by omega
      have q3 : World.cell? (w1.setCell ⟨g, j * 4 + 2, none⟩ (.string (markT (m + 2)))) ⟨g, j * 4 + 3, none⟩ = some (.slice ia l.length ic) := by rw [(Sv.own_at S10.out 0 rfl).cell (j * 4 + 3) (by rw [List.length_append, HDL.out]; simp <;> omega)]; simp [List.getElem_append, HDL.out]
      have S11 := Lib.hid (show Sl.Sep W _ [Sv.ownV 40 4 (some ⟨g, 0, none⟩) c N (D0 ++ (.int .i64 m :: .int .i64 (m + 1) :: .string (markT (m + 2)) :: .slice ia l.length ic :: R0)), Bag.bag ((rowsI (markI k (xs.take j)) ++ rowsI (xs.drop (j + 1))) ++ [(LI.mk ⟨kd, n, t⟩ ia ic l).row]), Run.restL W w fps] from Bag.bag_perm S10.out 1 rfl HDE.out)
      clear S10
      have S12 := Lib.hid (show Sl.Sep W _ [Sv.ownV 40 4 (some ⟨g, 0, none⟩) c N (D0 ++ (.int .i64 m :: .int .i64 (m + 1) :: .string (markT (m + 2)) :: .slice ia l.length ic :: R0)), Bag.bag (rowsI (markI k (xs.take j)) ++ rowsI (xs.drop (j + 1))), Run.restL W w fps, Bag.bag ([(LI.mk ⟨kd, n, t⟩ ia ic l).row])] from Bag.bag_split S11.out 1 rfl)
      clear S11
      have S13 := Lib.hid (show Sl.Sep W _ [Sv.ownV 40 4 (some ⟨g, 0, none⟩) c N (D0 ++ (.int .i64 m :: .int .i64 (m + 1) :: .string (markT (m + 2)) :: .slice ia l.length ic :: R0)), Bag.bag (rowsI (markI k (xs.take j)) ++ rowsI (xs.drop (j + 1))), Run.restL W w fps, Sv.ownV 102 2 ia ic l.length (cellsF l)] from Bag.one_of_bag S12.out 3 (r := (LI.mk ⟨kd, n, t⟩ ia ic l).row) rfl)
      clear S12
      go_wp2_with fail
      try simp only [e2, e3]
      go_at_call 96
      refine (L5.markFieldS_any ia ic l (m + 3) _ (Sv.own_at S13.out 3 rfl) (by omega) (by omega) (by omega)).mono ?_
      rintro e w7 ⟨rfl, ho, ht⟩
      clear q3
      have S14 := Lib.hid (show Sl.Sep W _ [Sv.ownV 40 4 (some ⟨g, 0, none⟩) c N (D0 ++ (.int .i64 m :: .int .i64 (m + 1) :: .string (markT (m + 2)) :: .slice ia l.length ic :: R0)), Bag.bag (rowsI (markI k (xs.take j)) ++ rowsI (xs.drop (j + 1))), Run.restL W w fps, Sv.ownV 102 2 ia ic l.length (cellsF (marksF (m + 3) l.length))] from S13.out.put 3 rfl ht ho (fun b hb => hb))
      clear S13
      clear ho ht
      have S15 := Lib.hid (show Sl.Sep W _ [Sv.ownV 40 4 (some ⟨g, 0, none⟩) c N (D0 ++ (.int .i64 m :: .int .i64 (m + 1) :: .string (markT (m + 2)) :: .slice ia l.length ic :: R0)), Bag.bag (rowsI (markI k (xs.take j)) ++ rowsI (xs.drop (j + 1))), Run.restL W w fps, Bag.bag ([(mark1 m (LI.mk ⟨kd, n, t⟩ ia ic l)).row])] from Bag.bag_of_one S14.out 3 (r := (mark1 m (LI.mk ⟨kd, n, t⟩ ia ic l)).row) (by unfold RowS.res LI.row mark1; dsimp only; rw [marksF_length]; rfl))
      clear S14
      have S16 := Lib.hid (show Sl.Sep W _ [Sv.ownV 40 4 (some ⟨g, 0, none⟩) c N (D0 ++ (.int .i64 m :: .int .i64 (m + 1) :: .string (markT (m + 2)) :: .slice ia l.length ic :: R0)), Bag.bag ((rowsI (markI k (xs.take j)) ++ rowsI (xs.drop (j + 1))) ++ ([(mark1 m (LI.mk ⟨kd, n, t⟩ ia ic l)).row])), Run.restL W w fps, Bag.bag ([])] from Bag.bag_join S15.out 1 3 (by decide) rfl rfl)
      clear S15
      have S17 := Lib.hid (show Sl.Sep W _ [Sv.ownV 40 4 (some ⟨g, 0, none⟩) c N (D0 ++ (.int .i64 m :: .int .i64 (m + 1) :: .string (markT (m + 2)) :: .slice ia l.length ic :: R0)), Bag.bag (rowsI (markI k (xs.take (j + 1))) ++ rowsI (xs.drop (j + 1))), Run.restL W w fps, Bag.bag ([])] from (by rw [HMN.out]; exact Bag.bag_perm S16.out 1 rfl (row_back _ _ _)))
      clear S16
      have S18 := Lib.hid (show Sl.Sep W _ [Sv.ownV 40 4 (some ⟨g, 0, none⟩) c N (D0 ++ (.int .i64 m :: .int .i64 (m + 1) :: .string (markT (m + 2)) :: .slice ia l.length ic :: R0)), Bag.bag (rowsI (markI k (xs.take (j + 1))) ++ rowsI (xs.drop (j + 1))), Run.restL W w fps] from Bag.take S17.out [0, 1, 2] (by rfl) (by decide))
      clear S17
      have HROW := Lib.hid (show cellsI (markI k (xs.take (j + 1)) ++ xs.drop (j + 1)) = D0 ++ (.int .i64 m :: .int .i64 (m + 1) :: .string (markT (m + 2)) :: .slice ia l.length ic :: R0) from by rw [HMN.out, cellsI_append, cellsI_append, ← HR0.out, ← HD0.out, List.append_assoc]; show D0 ++ (.int .i64 m :: .int .i64 (m + 1) :: .string (markT (m + 2)) :: .slice ia (marksF (m + 3) l.length).length ic :: R0) = _; rw [marksF_length])
      have S19 := Lib.hid (show Sl.Sep W _ [Sv.ownV 40 4 (some ⟨g, 0, none⟩) c N (cellsI (markI k (xs.take (j + 1)) ++ xs.drop (j + 1))), Bag.bag (rowsI (markI k (xs.take (j + 1))) ++ rowsI (xs.drop (j + 1))), Run.restL W w fps] from (by rw [HROW.out]; exact S18.out))
      clear S18
      go_wp2_with fail
      go_roundw
      case rel => exact ⟨j + 1, m + 3 + 2 * (l.length : Int), by omega, by go_num, by first | rfl | go_num, by omega, by omega, And.intro HEN.out.symm S19.out⟩
      case measure => simp [intOf]; omega
    · skip
      obtain rfl : j = N := by omega
      have hT : xs.take j = xs := List.take_of_length_le (by have := HN.out; omega)
      have hD : xs.drop j = [] := List.drop_of_length_le (by have := HN.out; omega)
      have HT := Lib.hid hT
      have HD := Lib.hid hD
      clear hT hD
      have S7 := Lib.hid (show Sl.Sep W _ [Sv.ownV 40 4 (some ⟨g, 0, none⟩) c j (cellsI (markI k xs)), Bag.bag (rowsI (markI k xs)), Run.restL W w fps] from (by have h := S6.out; rw [HT.out, HD.out, List.append_nil, show rowsI (markI k xs) ++ rowsI [] = rowsI (markI k xs) from List.append_nil _] at h; exact h))
      clear S6
      have S8 := Lib.hid (show Sl.Sep W _ [Bag.bag ([rowI (some ⟨g, 0, none⟩) c (markI k xs)]), Bag.bag (rowsI (markI k xs)), Run.restL W w fps] from Bag.bag_of_one S7.out 0 (r := rowI (some ⟨g, 0, none⟩) c (markI k xs)) (by unfold RowS.res rowI; dsimp only; rw [markI_length, ← HN.out]; rfl))
      clear S7
      have S9 := Lib.hid (show Sl.Sep W _ [Bag.bag ([rowI (some ⟨g, 0, none⟩) c (markI k xs)] ++ (rowsI (markI k xs))), Bag.bag ([]), Run.restL W w fps] from Bag.bag_join S8.out 0 1 (by decide) rfl rfl)
      clear S8
      have S10 := Lib.hid (show Sl.Sep W _ [Bag.bag ([rowI (some ⟨g, 0, none⟩) c (markI k xs)] ++ (rowsI (markI k xs))), Run.restL W w fps] from Bag.take S9.out [0, 2] (by rfl) (by decide))
      clear S9
      go_wp2_with fail
      go_ret
      exact ⟨by rw [← HT.out, ← HM.out]; rfl, S10.out⟩
theorem markItemS_any {W w : World} {rs : List Res} (h : Sl.Sep W w rs) (i : Nat) {a : Option Addr} {c : Nat} {xs : List LI} (hi : rs[i]? = some (bag (rowI a c xs :: rowsI xs))) (k : Int) (hl : xs.length ≤ 1048576) (hlen : ∀ x ∈ xs, x.l.length ≤ 1048576) (hk0 : 0 < k) (hk1 : k ≤ 1099511627776) :
    Calls Try.prog 52 #[.slice a xs.length c, .int .i64 k] w fun e w' => e = .returned (.int .i64 (endI k xs)) ∧ Sl.Sep W w' (rs.set i (bag (rowI a c (markI k xs) :: rowsI (markI k xs)))) :=
  (markItemS_sep a c xs k W w (Run.restL_start h i hi) hl hlen hk0 hk1).mono fun _ _ ⟨he, hs⟩ => ⟨he, Run.restL_back h i hi hs (markB_fp a c k xs)⟩
def LS.marked (k : Int) (y : LS) : LS := ⟨y.name, y.a, y.c, markI k y.xs, y.auto⟩
set_option maxHeartbeats 1000000 in
theorem markStore_any {W w : World} {rs : List Res} (h : Sl.Sep W w rs) (i : Nat) {y : LS} (hi : rs[i]? = some (bag y.rows)) (k : Int) (hf : FitS y.con) (hk0 : 0 < k) (hk1 : k ≤ 1099511627776) :
    Calls Try.prog 42 #[y.v, .int .i64 k] w fun e w' => e = .returned (.int .i64 (endI k y.xs)) ∧ Sl.Sep W w' (rs.set i (bag (LS.marked k y).rows)) := by
  have HC := Lib.hid (fun o => markItemS_any (h.alloc o) i hi k (by have h1 := hf.len; simpa [LS.con] using h1) (fun x hx => (hf.items x.con (List.mem_map.2 ⟨x, hx, rfl⟩)).len) hk0 hk1)
  obtain ⟨name, a, c, xs, auto⟩ := y
  unfold LS.v LS.cells
  dsimp only at HC ⊢
  obtain ⟨N, hN⟩ : ∃ n, n = xs.length := ⟨_, rfl⟩
  rw [← hN] at HC ⊢
  clear hN hf
  go_enter Try.func42, Try.ntmps42
  go_wp2_with (go_at_call 52; refine (HC.out _).mono ?_; rintro e w2 ⟨rfl, ho⟩; have HO := Lib.hid ho; clear ho)
  go_ret
  exact ⟨rfl, HO.out⟩
set_option maxHeartbeats 4000000 in
theorem heldItemS_any (a : Option Addr) (c : Nat) (xs : List LI) (k : Int) (hl : xs.length ≤ 1048576) (hlen : ∀ x ∈ xs, x.l.length ≤ 1048576) (hk0 : 0 < k) (hk1 : k ≤ 1099511627776) (w : World) (hr : Reads w w.heap.size a (cellsI (markI k xs))) (hx : RowsRd w w.heap.size (rowsI (markI k xs))) :
    Calls Try.prog 53 #[.slice a xs.length c, .int .i64 k] w fun e w' => e = .returned (.int .i64 (endI k xs)) ∧ Below w.heap.size w w' := by
  have HR := Lib.hid (fun w' (h : Below w.heap.size w w') => hr.below h)
  have HX := Lib.hid (fun w' (h : Below w.heap.size w w') => (hx.below h).more h.size)
  have HLEN := Lib.hid hlen
  obtain ⟨N, hN⟩ : ∃ n, n = xs.length := ⟨_, rfl⟩
  rw [← hN] at hl ⊢
  have hl' : (N : Int) ≤ 1048576 := by omega
  have HN := Lib.hid hN
  have HK1 := Lib.hid hk1
  clear hN hr hx hlen
  have S1 := Lib.hid (show Sl.Sep w w [] from Sl.Sep.start w)
  go_enter Try.func53, Try.ntmps53
  go_wp2_with fail
  go_loopw [1, 5] (fun v i wr => ∃ (j : Nat) (m : Int), j ≤ N ∧ i = .int .i64 j ∧ v = .int .i64 m ∧ k ≤ m ∧ m ≤ k + (j : Int) * 2097155 ∧ Hid (m = endI k (xs.take j) ∧ Sl.Sep w wr [])) (fun _ i _ => N - (intOf i).toNat)
  case atStart => exact ⟨0, k, Nat.zero_le _, rfl, rfl, by omega, by omega, And.intro rfl S1.out⟩
  case round =>
    obtain ⟨j, m, hj, rfl, rfl, hm0, hm1, hrel⟩ := hrel
    have HM := Lib.hid hrel.out.1
    have S2 := Lib.hid hrel.out.2
    clear hrel S1
    by_cases hlt : (j : Int) < (N : Int)
    · skip
      have hjl : j < xs.length := by have := HN.out; omega
      obtain ⟨x, hx⟩ : ∃ x, xs[j]? = some x := ⟨_, List.getElem?_eq_getElem hjl⟩
      have HXL := Lib.hid (HLEN.out x (List.mem_of_getElem? hx))
      have HEN := Lib.hid (end_next k hx)
      have hmx := markI_at k hx
      rw [← HM.out] at hmx HEN
      clear hx
      obtain ⟨⟨kd, n, t⟩, ia, ic, l⟩ := x
      dsimp only at HXL HEN
      obtain ⟨ad, x_, rfl, hx_⟩ := readsI_some (HR.out _ S2.out.old) j (List.getElem?_eq_some_iff.1 hmx).1
      clear hx_ x_
      have HK := Lib.hid (fun w' (h : Below w.heap.size w w') => readsI_at (HR.out _ h) j _ hmx)
      unfold mark1 at HK
      dsimp only at HK
      have HHF := Lib.hid (fun w' (h : Below w.heap.size w w') => L5.heldFieldS_any ia ic l.length (m + 3) w' (((HX.out _ h).at_ (rowsI_mem hmx)).reads) (by have := HXL.out; omega) (by omega) (by have := HK1.out; omega))
      have hxl : (l.length : Int) ≤ 1048576 := by have := HXL.out; omega
      have hmb : m ≤ 4611686018427387904 - 2097155 := by have := HK1.out; omega
      obtain ⟨tt, htt⟩ : ∃ t, markT (m + 2) = t := ⟨_, rfl⟩
      have HMT := Lib.hid (fun w' => L5.markText_any (m + 2) (by omega) (by omega) w')
      rw [htt] at HMT HK
      clear htt hmx
      have hML : (marksF (m + 3) l.length).length = l.length := marksF_length _ _
      rw [hML] at HK
      clear hML
      have e2 : m + 1 + 1 = m + 2 := by omega
      have e3 : m + 2 + 1 = m + 3 := by omega
      have f0 : World.cell? _ (ad.add (j * 4)) = some (.int .i64 m) := (HK.out _ S2.out.old).1
      have f1 : World.cell? _ (⟨(ad.add (j * 4)).block, (ad.add (j * 4)).off + 1, none⟩) = some (.int .i64 (m + 1)) := (HK.out _ S2.out.old).2.1
      have f2 : World.cell? _ (⟨(ad.add (j * 4)).block, (ad.add (j * 4)).off + 2, none⟩) = some (.string tt) := (HK.out _ S2.out.old).2.2.1
      have f3 : World.cell? _ (⟨(ad.add (j * 4)).block, (ad.add (j * 4)).off + 3, none⟩) = some (.slice ia l.length ic) := (HK.out _ S2.out.old).2.2.2
      go_upto_region 10 with fail
      clear f0 f1 f2 f3
      refine wp_region_held_drew (S := (fun w' => World.cell? w' (ad.add (j * 4)) = some (.int .i64 m) ∧ World.cell? w' (⟨(ad.add (j * 4)).block, (ad.add (j * 4)).off + 1, none⟩) = some (.int .i64 (m + 1)) ∧ World.cell? w' (⟨(ad.add (j * 4)).block, (ad.add (j * 4)).off + 2, none⟩) = some (.string tt) ∧ World.cell? w' (⟨(ad.add (j * 4)).block, (ad.add (j * 4)).off + 3, none⟩) = some (.slice ia l.length ic))) (by kernel_rfl) ⟨(HK.out _ S2.out.old).1, (HK.out _ S2.out.old).2.1, (HK.out _ S2.out.old).2.2.1, (HK.out _ S2.out.old).2.2.2⟩ (fun hS => ?_)
      have S3 := Lib.hid (show Sl.Sep w _ [] from Bag.drew1 S2.out)
      clear S2
      generalize World.drew _ = w1 at hS S3 ⊢
      refine tk 0 rfl ?_
      try simp only [zp0, zp1, zp2, zp3, zp4]
      refine tk 1 rfl ?_
      try simp only [zp0, zp1, zp2, zp3, zp4]
      refine tk 2 rfl ?_
      try simp only [zp0, zp1, zp2, zp3, zp4]
      refine tk 3 rfl ?_
      try simp only [zp0, zp1, zp2, zp3, zp4]
      refine tk 4 rfl ?_
      try simp only [zp0, zp1, zp2, zp3, zp4]
      refine tk 5 rfl ?_
      try simp only [zp0, zp1, zp2, zp3, zp4]
      refine tk 6 rfl ?_
      try simp only [zp0, zp1, zp2, zp3, zp4]
      refine Reg.one_op (i := 7) rfl (by kernel_rfl) (fun K hK => ?_)
      go_simp
      try simp only [e2]
      go_at_call 99
      refine (HMT.out _).mono ?_
      rintro e w2 ⟨rfl, hb⟩
      have S4 := Lib.hid (show Sl.Sep w _ [] from S3.out.keep hb)
      clear S3
      clear hb
      go_wp2_with fail
      refine hK.out _ _ ⟨(HK.out _ S4.out.old).1, (HK.out _ S4.out.old).2.1, (HK.out _ S4.out.old).2.2.1, (HK.out _ S4.out.old).2.2.2⟩ (fun hS => ?_)
      clear hK K
      try simp only [zp0, zp1, zp2, zp3, zp4]
      refine tk 8 rfl ?_
      try simp only [zp0, zp1, zp2, zp3, zp4]
      refine wpAnyH_done (by kernel_rfl) ?_ _
      have f0 : World.cell? _ (ad.add (j * 4)) = some (.int .i64 m) := (HK.out _ S4.out.old).1
      have f1 : World.cell? _ (⟨(ad.add (j * 4)).block, (ad.add (j * 4)).off + 1, none⟩) = some (.int .i64 (m + 1)) := (HK.out _ S4.out.old).2.1
      have f2 : World.cell? _ (⟨(ad.add (j * 4)).block, (ad.add (j * 4)).off + 2, none⟩) = some (.string tt) := (HK.out _ S4.out.old).2.2.1
      have f3 : World.cell? _ (⟨(ad.add (j * 4)).block, (ad.add (j * 4)).off + 3, none⟩) = some (.slice ia l.length ic) := (HK.out _ S4.out.old).2.2.2
      go_wp2_with fail
      try simp only [e2, e3]
      go_at_call 100
      refine (HHF.out _ S4.out.old).mono ?_
      rintro e w3 ⟨rfl, hb⟩
      clear f0 f1 f2 f3
      have S5 := Lib.hid (show Sl.Sep w _ [] from S4.out.keep hb)
      clear S4
      clear hb
      have f0 : World.cell? _ (ad.add (j * 4)) = some (.int .i64 m) := (HK.out _ S5.out.old).1
      have f1 : World.cell? _ (⟨(ad.add (j * 4)).block, (ad.add (j * 4)).off + 1, none⟩) = some (.int .i64 (m + 1)) := (HK.out _ S5.out.old).2.1
      have f2 : World.cell? _ (⟨(ad.add (j * 4)).block, (ad.add (j * 4)).off + 2, none⟩) = some (.string tt) := (HK.out _ S5.out.old).2.2.1
      have f3 : World.cell? _ (⟨(ad.add (j * 4)).block, (ad.add (j * 4)).off + 3, none⟩) = some (.slice ia l.length ic) := (HK.out _ S5.out.old).2.2.2
      have hneg : ¬ (m + 3 + 2 * (l.length : Int) < 0) := by omega
      go_wp2_with fail
      go_roundw
      case rel => exact ⟨j + 1, m + 3 + 2 * (l.length : Int), by omega, by go_num, by first | rfl | go_num, by omega, by omega, And.intro HEN.out.symm S5.out⟩
      case measure => simp [intOf]; omega
    · skip
      obtain rfl : j = N := by omega
      have hT : xs.take j = xs := List.take_of_length_le (by have := HN.out; omega)
      have HT := Lib.hid hT
      clear hT
      go_wp2_with fail
      go_ret
      exact ⟨by have h := HM.out; rw [HT.out] at h; rw [← h]; rfl, S2.out.old⟩
set_option maxHeartbeats 1000000 in
theorem heldStore_any (y : LS) (k : Int) (hf : FitS y.con) (hk0 : 0 < k) (hk1 : k ≤ 1099511627776) (w : World) (hr : RowsRd w w.heap.size (LS.marked k y).rows) :
    Calls Try.prog 44 #[y.v, .int .i64 k] w fun e w' => e = .returned (.int .i64 (endI k y.xs)) ∧ Below w.heap.size w w' := by
  have hn := (endI_range y.xs k (fun x hx => (hf.items x.con (List.mem_map.2 ⟨x, hx, rfl⟩)).len)).1
  have HC := Lib.hid (fun w' (h : Below w.heap.size w w') => heldItemS_any y.a y.c y.xs k (by have h1 := hf.len; simpa [LS.con] using h1) (fun x hx => (hf.items x.con (List.mem_map.2 ⟨x, hx, rfl⟩)).len) hk0 hk1 w' (((LS.outer hr).below h).more h.size) (((LS.inner hr).below h).more h.size))
  have HB := Lib.hid (fun o => below_alloc (Below.refl w.heap.size w) o (Nat.le_refl _))
  obtain ⟨name, a, c, xs, auto⟩ := y
  unfold LS.v LS.cells
  dsimp only at HC hn ⊢
  obtain ⟨N, hN⟩ : ∃ n, n = xs.length := ⟨_, rfl⟩
  obtain ⟨E, hE⟩ : ∃ E, E = endI k xs := ⟨_, rfl⟩
  rw [← hE] at hn
  rw [← hN, ← hE] at HC ⊢
  clear hN hf hr hE
  have hneg : ¬ (E < 0) := by omega
  go_enter Try.func44, Try.ntmps44
  go_wp2_with (go_at_call 53; refine (HC.out _ (HB.out _)).mono ?_; rintro e w2 ⟨rfl, ho⟩; have HO := Lib.hid ho; clear ho)
  go_ret
  exact ⟨rfl, (HB.out _).trans (HO.out.mono (HB.out _).size)⟩
end Go.Proofs.Ytkfejjoehgipmaa.L6
