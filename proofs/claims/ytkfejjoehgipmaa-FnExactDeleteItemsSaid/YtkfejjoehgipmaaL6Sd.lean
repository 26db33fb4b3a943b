/-
  The contracts of chapter 6's functions of the specification over a range: ItemsIn, DeleteItems. Conditions: keys' texts of at most 2^40 bytes, at most 2^20 fields and items. (Written by my program gen_l6d.py.)
-/
import Derived.Test.YtkfejjoehgipmaaTk
import Derived.Test.YtkfejjoehgipmaaL6Sb
import Derived.Test.YtkfejjoehgipmaaL5Rd
import Derived.Test.YtkfejjoehgipmaaL6Sx
namespace Go.Proofs.Ytkfejjoehgipmaa.L6
set_option maxRecDepth 100000
open L4 (K isK cmpK R inR encU)
open L5 (F isR isN cellsF encR eqR Small)
open Go.ChangeShapes Go.WideShapes Go.ChangeAt Go.RowKit Mem Sl Ex L2 Sv Bag
set_option linter.unusedVariables false
set_option linter.unusedSimpArgs false


set_option maxHeartbeats 8000000 in
theorem specItemsIn_any (y : LS) (r : R) (hf : FitS y.con) (hr1 : r.lo.text.size ≤ 281474976710656) (hr2 : r.hi.text.size ≤ 281474976710656) (w : World) (hr : RowsRd w w.heap.size y.rows) :
    Calls Try.prog 50 #[y.v, r.v] w (GaveIs w (inI y.con.items r)) := by
  obtain ⟨i0, hi1, hi2, hi3, hi4⟩ := itemInfo
  have HI := Lib.hid (And.intro hi1 (And.intro hi2 (And.intro hi3 hi4)))
  clear hi1 hi2 hi3 hi4
  obtain ⟨rl, rh, ⟨lk, ln, lt⟩, ⟨gk, gn, gt⟩⟩ := r
  unfold L4.R.v
  dsimp only at *
  obtain ⟨name, a, c, xs, auto⟩ := y
  have HR := Lib.hid (fun w' (h : Below w.heap.size w w') => LS.outer (hr.below h))
  have HX := Lib.hid (fun w' (h : Below w.heap.size w w') => (LS.inner (hr.below h)).more h.size)
  have HF := Lib.hid hf.items
  have HNM := Lib.hid hf.name
  have hl := hf.len
  simp only [LS.con, conI_length] at hl
  dsimp only [LS.con] at HR HX HF HNM
  try unfold LS.v LS.cells LS.con
  try dsimp only
  obtain ⟨N, hN⟩ : ∃ n, n = xs.length := ⟨_, rfl⟩
  rw [← hN] at hl ⊢
  have hl' : (N : Int) ≤ 1048576 := by omega
  have HN := Lib.hid hN
  clear hN hr hf
  have S1 := Lib.hid (show Sl.Sep w ((w.alloc (.cells #[.string name, .slice a N c, .int .i64 auto] 26)).alloc (.cells #[.bool rl, .bool rh, .int .i64 lk, .int .i64 ln, .string lt, .int .i64 gk, .int .i64 gn, .string gt] 45)) [L4.boxR w.heap.size 26 #[.string name, .slice a N c, .int .i64 auto], L4.boxR (w.heap.size + 1) 45 #[.bool rl, .bool rh, .int .i64 lk, .int .i64 ln, .string lt, .int .i64 gk, .int .i64 gn, .string gt]] from L4.push_box (L4.push_box (Sl.Sep.start w) 26 #[.string name, .slice a N c, .int .i64 auto] (w.heap.size) (by simp)) 45 #[.bool rl, .bool rh, .int .i64 lk, .int .i64 ln, .string lt, .int .i64 gk, .int .i64 gn, .string gt] (w.heap.size + 1) (by simp))
  obtain ⟨wa, hwa⟩ : ∃ u, u = ((w.alloc (.cells #[.string name, .slice a N c, .int .i64 auto] 26)).alloc (.cells #[.bool rl, .bool rh, .int .i64 lk, .int .i64 ln, .string lt, .int .i64 gk, .int .i64 gn, .string gt] 45)) := ⟨_, rfl⟩
  rw [← hwa] at S1
  go_enter Try.func50, Try.ntmps50
  go_upto_region 1 with fail
  rw [← hwa]
  clear hwa
  go_upto_region 2 with fail
  have S2 := Lib.hid (show Sl.Sep w _ [L4.boxR w.heap.size 26 #[.string name, .slice a N c, .int .i64 auto], L4.boxR (w.heap.size + 1) 45 #[.bool rl, .bool rh, .int .i64 lk, .int .i64 ln, .string lt, .int .i64 gk, .int .i64 gn, .string gt], Sv.ownV 40 4 (some ⟨wa.heap.size, 0, none⟩) 0 0 (cellsI [])] from Sv.push_own S1.out ((Below.refl _ _).alloc (Nat.le_refl _) _) (OwnV.madeAt wa 40 4 0 wa.heap.size #[] rfl (Nat.le_refl _) rfl (by decide)))
  clear S1
  obtain ⟨g1, hg⟩ : ∃ g', g' = wa.heap.size := ⟨_, rfl⟩
  rw [← hg] at S2 ⊢
  clear hg
  generalize wa.alloc (.cells #[] 40) = w1 at S2 ⊢
  have S3 := Lib.hid (show Sl.Sep w _ [L4.boxR w.heap.size 26 #[.string name, .slice a N c, .int .i64 auto], L4.boxR (w.heap.size + 1) 45 #[.bool rl, .bool rh, .int .i64 lk, .int .i64 ln, .string lt, .int .i64 gk, .int .i64 gn, .string gt], Sv.ownV 40 4 (some ⟨g1, 0, none⟩) 0 0 (cellsI []), Bag.bag (rowsI [])] from Bag.push_bag S2.out (Below.refl _ _) (Bag.BagOwn.nil _ _))
  clear S2
  go_wp2_with fail
  go_loopw [5, 6] (fun v i wr => ∃ (k m : Nat) (A : Option Addr) (C : Nat) (ys : List LI), k ≤ N ∧ i = .int .i64 k ∧ v = .slice A m C ∧ m ≤ k ∧ Hid ((m = ys.length ∧ conI ys = inI ((conI xs).take k) ⟨rl, rh, ⟨lk, ln, lt⟩, ⟨gk, gn, gt⟩⟩) ∧ Sl.Sep w wr [L4.boxR w.heap.size 26 #[.string name, .slice a N c, .int .i64 auto], L4.boxR (w.heap.size + 1) 45 #[.bool rl, .bool rh, .int .i64 lk, .int .i64 ln, .string lt, .int .i64 gk, .int .i64 gn, .string gt], Sv.ownV 40 4 A C m (cellsI ys), Bag.bag (rowsI ys)])) (fun _ i _ => N - (intOf i).toNat)
  case atStart => exact ⟨0, 0, _, _, [], Nat.zero_le _, rfl, rfl, Nat.le_refl _, And.intro ⟨rfl, rfl⟩ S3.out⟩
  case round =>
    obtain ⟨k, m, A, C, ys, hk, rfl, rfl, hmk, hrel⟩ := hrel
    have HC := Lib.hid hrel.out.1
    have S4 := Lib.hid hrel.out.2
    clear hrel S3
    by_cases hlt : (k : Int) < (N : Int)
    · skip
      have hkl : k < xs.length := by have := HN.out; omega
      obtain ⟨ad, x, rfl, hx⟩ := readsI_some (HR.out _ S4.out.old) k hkl
      obtain ⟨⟨kd, n, t⟩, ia, ic, l⟩ := x
      have HK := Lib.hid (fun w' (h : Below w.heap.size w w') => readsI_at (HR.out _ h) k _ hx)
      try dsimp only at HK
      have HFI := Lib.hid (fit_at HF.out hx)
      try dsimp only [LI.con] at HFI
      have HCI := Lib.hid (fun w' (h : Below w.heap.size w w') => l6Item_any kd n t ia ic l HFI.out.len w' (((HX.out _ h).at_ (rowsI_mem hx)).reads))
      try dsimp only at HCI
      obtain ⟨b, hb⟩ : ∃ b, inR ⟨kd, n, t⟩ ⟨rl, rh, ⟨lk, ln, lt⟩, ⟨gk, gn, gt⟩⟩ = b := ⟨_, rfl⟩
      have HIN := fun w => L4.specInRangeOf_any ⟨kd, n, t⟩ ⟨rl, rh, ⟨lk, ln, lt⟩, ⟨gk, gn, gt⟩⟩ (by have : t.size ≤ 1099511627776 := HFI.out.text; show t.size ≤ _; omega) hr1 hr2 w
      rw [hb] at HIN
      replace HIN := Lib.hid HIN
      have HB := Lib.hid hb
      clear hb
      have HT := Lib.hid (inI_take (r := ⟨rl, rh, ⟨lk, ln, lt⟩, ⟨gk, gn, gt⟩⟩) (show (conI xs)[k]? = some (⟨⟨kd, n, t⟩, l⟩ : It) from con_of hx))
      clear hx
      dsimp only at HT
      have f0 : World.cell? _ ⟨w.heap.size, 0, none⟩ = some (.string name) := Bag.cell_at S4.out 0 rfl 0 rfl
      have f1 : World.cell? _ ⟨w.heap.size, 1, none⟩ = some (.slice (some ad) N c) := Bag.cell_at S4.out 0 rfl 1 rfl
      have f2 : World.cell? _ ⟨w.heap.size, 2, none⟩ = some (.int .i64 auto) := Bag.cell_at S4.out 0 rfl 2 rfl
      have f3 : World.cell? _ ⟨w.heap.size + 1, 0, none⟩ = some (.bool rl) := Bag.cell_at S4.out 1 rfl 0 rfl
      have f4 : World.cell? _ ⟨w.heap.size + 1, 1, none⟩ = some (.bool rh) := Bag.cell_at S4.out 1 rfl 1 rfl
      have f5 : World.cell? _ ⟨w.heap.size + 1, 2, none⟩ = some (.int .i64 lk) := Bag.cell_at S4.out 1 rfl 2 rfl
      have f6 : World.cell? _ ⟨w.heap.size + 1, 3, none⟩ = some (.int .i64 ln) := Bag.cell_at S4.out 1 rfl 3 rfl
      have f7 : World.cell? _ ⟨w.heap.size + 1, 4, none⟩ = some (.string lt) := Bag.cell_at S4.out 1 rfl 4 rfl
      have f8 : World.cell? _ ⟨w.heap.size + 1, 5, none⟩ = some (.int .i64 gk) := Bag.cell_at S4.out 1 rfl 5 rfl
      have f9 : World.cell? _ ⟨w.heap.size + 1, 6, none⟩ = some (.int .i64 gn) := Bag.cell_at S4.out 1 rfl 6 rfl
      have f10 : World.cell? _ ⟨w.heap.size + 1, 7, none⟩ = some (.string gt) := Bag.cell_at S4.out 1 rfl 7 rfl
      have f11 : World.cell? _ (ad.add (k * 4)) = some (.int .i64 kd) := (HK.out _ S4.out.old).1
      have f12 : World.cell? _ (⟨(ad.add (k * 4)).block, (ad.add (k * 4)).off + 1, none⟩) = some (.int .i64 n) := (HK.out _ S4.out.old).2.1
      have f13 : World.cell? _ (⟨(ad.add (k * 4)).block, (ad.add (k * 4)).off + 2, none⟩) = some (.string t) := (HK.out _ S4.out.old).2.2.1
      have f14 : World.cell? _ (⟨(ad.add (k * 4)).block, (ad.add (k * 4)).off + 3, none⟩) = some (.slice ia l.length ic) := (HK.out _ S4.out.old).2.2.2
      cases b with
      | false =>
        go_upto_region 5 with fail
        clear f0 f1 f2 f3 f4 f5 f6 f7 f8 f9 f10 f11 f12 f13 f14
        refine wp_region_held_drew (S := (fun w' => World.cell? w' ⟨w.heap.size, 0, none⟩ = some (.string name) ∧ World.cell? w' ⟨w.heap.size, 1, none⟩ = some (.slice (some ad) N c) ∧ World.cell? w' ⟨w.heap.size, 2, none⟩ = some (.int .i64 auto) ∧ World.cell? w' ⟨w.heap.size + 1, 0, none⟩ = some (.bool rl) ∧ World.cell? w' ⟨w.heap.size + 1, 1, none⟩ = some (.bool rh) ∧ World.cell? w' ⟨w.heap.size + 1, 2, none⟩ = some (.int .i64 lk) ∧ World.cell? w' ⟨w.heap.size + 1, 3, none⟩ = some (.int .i64 ln) ∧ World.cell? w' ⟨w.heap.size + 1, 4, none⟩ = some (.string lt) ∧ World.cell? w' ⟨w.heap.size + 1, 5, none⟩ = some (.int .i64 gk) ∧ World.cell? w' ⟨w.heap.size + 1, 6, none⟩ = some (.int .i64 gn) ∧ World.cell? w' ⟨w.heap.size + 1, 7, none⟩ = some (.string gt) ∧ World.cell? w' (ad.add (k * 4)) = some (.int .i64 kd) ∧ World.cell? w' (⟨(ad.add (k * 4)).block, (ad.add (k * 4)).off + 1, none⟩) = some (.int .i64 n) ∧ World.cell? w' (⟨(ad.add (k * 4)).block, (ad.add (k * 4)).off + 2, none⟩) = some (.string t) ∧ World.cell? w' (⟨(ad.add (k * 4)).block, (ad.add (k * 4)).off + 3, none⟩) = some (.slice ia l.length ic))) (by kernel_rfl) ⟨Bag.cell_at S4.out 0 rfl 0 rfl, Bag.cell_at S4.out 0 rfl 1 rfl, Bag.cell_at S4.out 0 rfl 2 rfl, Bag.cell_at S4.out 1 rfl 0 rfl, Bag.cell_at S4.out 1 rfl 1 rfl, Bag.cell_at S4.out 1 rfl 2 rfl, Bag.cell_at S4.out 1 rfl 3 rfl, Bag.cell_at S4.out 1 rfl 4 rfl, Bag.cell_at S4.out 1 rfl 5 rfl, Bag.cell_at S4.out 1 rfl 6 rfl, Bag.cell_at S4.out 1 rfl 7 rfl, (HK.out _ S4.out.old).1, (HK.out _ S4.out.old).2.1, (HK.out _ S4.out.old).2.2.1, (HK.out _ S4.out.old).2.2.2⟩ (fun hS => ?_)
        have S5 := Lib.hid (show Sl.Sep w _ [L4.boxR w.heap.size 26 #[.string name, .slice (some ad) N c, .int .i64 auto], L4.boxR (w.heap.size + 1) 45 #[.bool rl, .bool rh, .int .i64 lk, .int .i64 ln, .string lt, .int .i64 gk, .int .i64 gn, .string gt], Sv.ownV 40 4 A C m (cellsI ys), Bag.bag (rowsI ys)] from Bag.drew1 S4.out)
        clear S4
        generalize World.drew _ = w2 at hS S5 ⊢
        refine tk 0 rfl ?_
        try simp only [zp0, zp1, zp2, zp3, zp4]
        refine tk 1 rfl ?_
        try simp only [zp0, zp1, zp2, zp3, zp4]
        refine tk 2 rfl ?_
        try simp only [zp0, zp1, zp2, zp3, zp4]
        refine tk 3 rfl ?_
        try simp only [zp0, zp1, zp2, zp3, zp4]
        refine tk 4 rfl ?_
        try simp only [zp0, zp1, zp2, zp3, zp4]
        refine tk 5 rfl ?_
        try simp only [zp0, zp1, zp2, zp3, zp4]
        refine tk 6 rfl ?_
        try simp only [zp0, zp1, zp2, zp3, zp4]
        refine Reg.one_op (i := 7) rfl (by kernel_rfl) (fun K hK => ?_)
        go_simp
        go_at_call 29
        refine (HIN.out _).mono ?_
        rintro e w3 ⟨rfl, hb⟩
        have S6 := Lib.hid (show Sl.Sep w _ [L4.boxR w.heap.size 26 #[.string name, .slice (some ad) N c, .int .i64 auto], L4.boxR (w.heap.size + 1) 45 #[.bool rl, .bool rh, .int .i64 lk, .int .i64 ln, .string lt, .int .i64 gk, .int .i64 gn, .string gt], Sv.ownV 40 4 A C m (cellsI ys), Bag.bag (rowsI ys)] from S5.out.keep hb)
        clear S5
        clear hb
        go_wp2_with fail
        refine hK.out _ _ ⟨Bag.cell_at S6.out 0 rfl 0 rfl, Bag.cell_at S6.out 0 rfl 1 rfl, Bag.cell_at S6.out 0 rfl 2 rfl, Bag.cell_at S6.out 1 rfl 0 rfl, Bag.cell_at S6.out 1 rfl 1 rfl, Bag.cell_at S6.out 1 rfl 2 rfl, Bag.cell_at S6.out 1 rfl 3 rfl, Bag.cell_at S6.out 1 rfl 4 rfl, Bag.cell_at S6.out 1 rfl 5 rfl, Bag.cell_at S6.out 1 rfl 6 rfl, Bag.cell_at S6.out 1 rfl 7 rfl, (HK.out _ S6.out.old).1, (HK.out _ S6.out.old).2.1, (HK.out _ S6.out.old).2.2.1, (HK.out _ S6.out.old).2.2.2⟩ (fun hS => ?_)
        clear hK K
        try simp only [zp0, zp1, zp2, zp3, zp4]
        refine wpAnyH_done (by kernel_rfl) ?_ _
        have f0 : World.cell? _ ⟨w.heap.size, 0, none⟩ = some (.string name) := Bag.cell_at S6.out 0 rfl 0 rfl
        have f1 : World.cell? _ ⟨w.heap.size, 1, none⟩ = some (.slice (some ad) N c) := Bag.cell_at S6.out 0 rfl 1 rfl
        have f2 : World.cell? _ ⟨w.heap.size, 2, none⟩ = some (.int .i64 auto) := Bag.cell_at S6.out 0 rfl 2 rfl
        have f3 : World.cell? _ ⟨w.heap.size + 1, 0, none⟩ = some (.bool rl) := Bag.cell_at S6.out 1 rfl 0 rfl
        have f4 : World.cell? _ ⟨w.heap.size + 1, 1, none⟩ = some (.bool rh) := Bag.cell_at S6.out 1 rfl 1 rfl
        have f5 : World.cell? _ ⟨w.heap.size + 1, 2, none⟩ = some (.int .i64 lk) := Bag.cell_at S6.out 1 rfl 2 rfl
        have f6 : World.cell? _ ⟨w.heap.size + 1, 3, none⟩ = some (.int .i64 ln) := Bag.cell_at S6.out 1 rfl 3 rfl
        have f7 : World.cell? _ ⟨w.heap.size + 1, 4, none⟩ = some (.string lt) := Bag.cell_at S6.out 1 rfl 4 rfl
        have f8 : World.cell? _ ⟨w.heap.size + 1, 5, none⟩ = some (.int .i64 gk) := Bag.cell_at S6.out 1 rfl 5 rfl
        have f9 : World.cell? _ ⟨w.heap.size + 1, 6, none⟩ = some (.int .i64 gn) := Bag.cell_at S6.out 1 rfl 6 rfl
        have f10 : World.cell? _ ⟨w.heap.size + 1, 7, none⟩ = some (.string gt) := Bag.cell_at S6.out 1 rfl 7 rfl
        have f11 : World.cell? _ (ad.add (k * 4)) = some (.int .i64 kd) := (HK.out _ S6.out.old).1
        have f12 : World.cell? _ (⟨(ad.add (k * 4)).block, (ad.add (k * 4)).off + 1, none⟩) = some (.int .i64 n) := (HK.out _ S6.out.old).2.1
        have f13 : World.cell? _ (⟨(ad.add (k * 4)).block, (ad.add (k * 4)).off + 2, none⟩) = some (.string t) := (HK.out _ S6.out.old).2.2.1
        have f14 : World.cell? _ (⟨(ad.add (k * 4)).block, (ad.add (k * 4)).off + 3, none⟩) = some (.slice ia l.length ic) := (HK.out _ S6.out.old).2.2.2
        go_wp2_with fail
        go_roundw
        case rel => exact ⟨k + 1, m, A, C, ys, by omega, by go_num, rfl, by omega, And.intro ⟨HC.out.1, by rw [HT.out, HB.out, HC.out.2]; simp⟩ S6.out⟩
        case measure => simp [intOf]; omega
      | true =>
        go_upto_region 5 with fail
        clear f0 f1 f2 f3 f4 f5 f6 f7 f8 f9 f10 f11 f12 f13 f14
        refine wp_region_held_drew (S := (fun w' => World.cell? w' ⟨w.heap.size, 0, none⟩ = some (.string name) ∧ World.cell? w' ⟨w.heap.size, 1, none⟩ = some (.slice (some ad) N c) ∧ World.cell? w' ⟨w.heap.size, 2, none⟩ = some (.int .i64 auto) ∧ World.cell? w' ⟨w.heap.size + 1, 0, none⟩ = some (.bool rl) ∧ World.cell? w' ⟨w.heap.size + 1, 1, none⟩ = some (.bool rh) ∧ World.cell? w' ⟨w.heap.size + 1, 2, none⟩ = some (.int .i64 lk) ∧ World.cell? w' ⟨w.heap.size + 1, 3, none⟩ = some (.int .i64 ln) ∧ World.cell? w' ⟨w.heap.size + 1, 4, none⟩ = some (.string lt) ∧ World.cell? w' ⟨w.heap.size + 1, 5, none⟩ = some (.int .i64 gk) ∧ World.cell? w' ⟨w.heap.size + 1, 6, none⟩ = some (.int .i64 gn) ∧ World.cell? w' ⟨w.heap.size + 1, 7, none⟩ = some (.string gt) ∧ World.cell? w' (ad.add (k * 4)) = some (.int .i64 kd) ∧ World.cell? w' (⟨(ad.add (k * 4)).block, (ad.add (k * 4)).off + 1, none⟩) = some (.int .i64 n) ∧ World.cell? w' (⟨(ad.add (k * 4)).block, (ad.add (k * 4)).off + 2, none⟩) = some (.string t) ∧ World.cell? w' (⟨(ad.add (k * 4)).block, (ad.add (k * 4)).off + 3, none⟩) = some (.slice ia l.length ic))) (by kernel_rfl) ⟨Bag.cell_at S4.out 0 rfl 0 rfl, Bag.cell_at S4.out 0 rfl 1 rfl, Bag.cell_at S4.out 0 rfl 2 rfl, Bag.cell_at S4.out 1 rfl 0 rfl, Bag.cell_at S4.out 1 rfl 1 rfl, Bag.cell_at S4.out 1 rfl 2 rfl, Bag.cell_at S4.out 1 rfl 3 rfl, Bag.cell_at S4.out 1 rfl 4 rfl, Bag.cell_at S4.out 1 rfl 5 rfl, Bag.cell_at S4.out 1 rfl 6 rfl, Bag.cell_at S4.out 1 rfl 7 rfl, (HK.out _ S4.out.old).1, (HK.out _ S4.out.old).2.1, (HK.out _ S4.out.old).2.2.1, (HK.out _ S4.out.old).2.2.2⟩ (fun hS => ?_)
        have S5 := Lib.hid (show Sl.Sep w _ [L4.boxR w.heap.size 26 #[.string name, .slice (some ad) N c, .int .i64 auto], L4.boxR (w.heap.size + 1) 45 #[.bool rl, .bool rh, .int .i64 lk, .int .i64 ln, .string lt, .int .i64 gk, .int .i64 gn, .string gt], Sv.ownV 40 4 A C m (cellsI ys), Bag.bag (rowsI ys)] from Bag.drew1 S4.out)
        clear S4
        generalize World.drew _ = w2 at hS S5 ⊢
        refine tk 0 rfl ?_
        try simp only [zp0, zp1, zp2, zp3, zp4]
        refine tk 1 rfl ?_
        try simp only [zp0, zp1, zp2, zp3, zp4]
        refine tk 2 rfl ?_
        try simp only [zp0, zp1, zp2, zp3, zp4]
        refine tk 3 rfl ?_
        try simp only [zp0, zp1, zp2, zp3, zp4]
        refine tk 4 rfl ?_
        try simp only [zp0, zp1, zp2, zp3, zp4]
        refine tk 5 rfl ?_
        try simp only [zp0, zp1, zp2, zp3, zp4]
        refine tk 6 rfl ?_
        try simp only [zp0, zp1, zp2, zp3, zp4]
        refine Reg.one_op (i := 7) rfl (by kernel_rfl) (fun K hK => ?_)
        go_simp
        go_at_call 29
        refine (HIN.out _).mono ?_
        rintro e w3 ⟨rfl, hb⟩
        have S6 := Lib.hid (show Sl.Sep w _ [L4.boxR w.heap.size 26 #[.string name, .slice (some ad) N c, .int .i64 auto], L4.boxR (w.heap.size + 1) 45 #[.bool rl, .bool rh, .int .i64 lk, .int .i64 ln, .string lt, .int .i64 gk, .int .i64 gn, .string gt], Sv.ownV 40 4 A C m (cellsI ys), Bag.bag (rowsI ys)] from S5.out.keep hb)
        clear S5
        clear hb
        go_wp2_with fail
        refine hK.out _ _ ⟨Bag.cell_at S6.out 0 rfl 0 rfl, Bag.cell_at S6.out 0 rfl 1 rfl, Bag.cell_at S6.out 0 rfl 2 rfl, Bag.cell_at S6.out 1 rfl 0 rfl, Bag.cell_at S6.out 1 rfl 1 rfl, Bag.cell_at S6.out 1 rfl 2 rfl, Bag.cell_at S6.out 1 rfl 3 rfl, Bag.cell_at S6.out 1 rfl 4 rfl, Bag.cell_at S6.out 1 rfl 5 rfl, Bag.cell_at S6.out 1 rfl 6 rfl, Bag.cell_at S6.out 1 rfl 7 rfl, (HK.out _ S6.out.old).1, (HK.out _ S6.out.old).2.1, (HK.out _ S6.out.old).2.2.1, (HK.out _ S6.out.old).2.2.2⟩ (fun hS => ?_)
        clear hK K
        try simp only [zp0, zp1, zp2, zp3, zp4]
        refine wpAnyH_done (by kernel_rfl) ?_ _
        have f0 : World.cell? _ ⟨w.heap.size, 0, none⟩ = some (.string name) := Bag.cell_at S6.out 0 rfl 0 rfl
        have f1 : World.cell? _ ⟨w.heap.size, 1, none⟩ = some (.slice (some ad) N c) := Bag.cell_at S6.out 0 rfl 1 rfl
        have f2 : World.cell? _ ⟨w.heap.size, 2, none⟩ = some (.int .i64 auto) := Bag.cell_at S6.out 0 rfl 2 rfl
        have f3 : World.cell? _ ⟨w.heap.size + 1, 0, none⟩ = some (.bool rl) := Bag.cell_at S6.out 1 rfl 0 rfl
        have f4 : World.cell? _ ⟨w.heap.size + 1, 1, none⟩ = some (.bool rh) := Bag.cell_at S6.out 1 rfl 1 rfl
        have f5 : World.cell? _ ⟨w.heap.size + 1, 2, none⟩ = some (.int .i64 lk) := Bag.cell_at S6.out 1 rfl 2 rfl
        have f6 : World.cell? _ ⟨w.heap.size + 1, 3, none⟩ = some (.int .i64 ln) := Bag.cell_at S6.out 1 rfl 3 rfl
        have f7 : World.cell? _ ⟨w.heap.size + 1, 4, none⟩ = some (.string lt) := Bag.cell_at S6.out 1 rfl 4 rfl
        have f8 : World.cell? _ ⟨w.heap.size + 1, 5, none⟩ = some (.int .i64 gk) := Bag.cell_at S6.out 1 rfl 5 rfl
        have f9 : World.cell? _ ⟨w.heap.size + 1, 6, none⟩ = some (.int .i64 gn) := Bag.cell_at S6.out 1 rfl 6 rfl
        have f10 : World.cell? _ ⟨w.heap.size + 1, 7, none⟩ = some (.string gt) := Bag.cell_at S6.out 1 rfl 7 rfl
        have f11 : World.cell? _ (ad.add (k * 4)) = some (.int .i64 kd) := (HK.out _ S6.out.old).1
        have f12 : World.cell? _ (⟨(ad.add (k * 4)).block, (ad.add (k * 4)).off + 1, none⟩) = some (.int .i64 n) := (HK.out _ S6.out.old).2.1
        have f13 : World.cell? _ (⟨(ad.add (k * 4)).block, (ad.add (k * 4)).off + 2, none⟩) = some (.string t) := (HK.out _ S6.out.old).2.2.1
        have f14 : World.cell? _ (⟨(ad.add (k * 4)).block, (ad.add (k * 4)).off + 3, none⟩) = some (.slice ia l.length ic) := (HK.out _ S6.out.old).2.2.2
        go_wp2_with fail
        go_at_call 97
        refine (HCI.out _ S6.out.old).mono ?_
        rintro e w4 ⟨a1, c1, rfl, ho, hb⟩
        clear f0 f1 f2 f3 f4 f5 f6 f7 f8 f9 f10 f11 f12 f13 f14
        have S7 := Lib.hid (show Sl.Sep w _ [L4.boxR w.heap.size 26 #[.string name, .slice (some ad) N c, .int .i64 auto], L4.boxR (w.heap.size + 1) 45 #[.bool rl, .bool rh, .int .i64 lk, .int .i64 ln, .string lt, .int .i64 gk, .int .i64 gn, .string gt], Sv.ownV 40 4 A C m (cellsI ys), Bag.bag (rowsI ys), Bag.bag ([(LI.mk ⟨kd, n, t⟩ a1 c1 l).row])] from Bag.push_bag S6.out hb ho)
        clear S6
        clear hb ho
        have f0 : World.cell? _ ⟨w.heap.size, 0, none⟩ = some (.string name) := Bag.cell_at S7.out 0 rfl 0 rfl
        have f1 : World.cell? _ ⟨w.heap.size, 1, none⟩ = some (.slice (some ad) N c) := Bag.cell_at S7.out 0 rfl 1 rfl
        have f2 : World.cell? _ ⟨w.heap.size, 2, none⟩ = some (.int .i64 auto) := Bag.cell_at S7.out 0 rfl 2 rfl
        have f3 : World.cell? _ ⟨w.heap.size + 1, 0, none⟩ = some (.bool rl) := Bag.cell_at S7.out 1 rfl 0 rfl
        have f4 : World.cell? _ ⟨w.heap.size + 1, 1, none⟩ = some (.bool rh) := Bag.cell_at S7.out 1 rfl 1 rfl
        have f5 : World.cell? _ ⟨w.heap.size + 1, 2, none⟩ = some (.int .i64 lk) := Bag.cell_at S7.out 1 rfl 2 rfl
        have f6 : World.cell? _ ⟨w.heap.size + 1, 3, none⟩ = some (.int .i64 ln) := Bag.cell_at S7.out 1 rfl 3 rfl
        have f7 : World.cell? _ ⟨w.heap.size + 1, 4, none⟩ = some (.string lt) := Bag.cell_at S7.out 1 rfl 4 rfl
        have f8 : World.cell? _ ⟨w.heap.size + 1, 5, none⟩ = some (.int .i64 gk) := Bag.cell_at S7.out 1 rfl 5 rfl
        have f9 : World.cell? _ ⟨w.heap.size + 1, 6, none⟩ = some (.int .i64 gn) := Bag.cell_at S7.out 1 rfl 6 rfl
        have f10 : World.cell? _ ⟨w.heap.size + 1, 7, none⟩ = some (.string gt) := Bag.cell_at S7.out 1 rfl 7 rfl
        have f11 : World.cell? _ (ad.add (k * 4)) = some (.int .i64 kd) := (HK.out _ S7.out.old).1
        have f12 : World.cell? _ (⟨(ad.add (k * 4)).block, (ad.add (k * 4)).off + 1, none⟩) = some (.int .i64 n) := (HK.out _ S7.out.old).2.1
        have f13 : World.cell? _ (⟨(ad.add (k * 4)).block, (ad.add (k * 4)).off + 2, none⟩) = some (.string t) := (HK.out _ S7.out.old).2.2.1
        have f14 : World.cell? _ (⟨(ad.add (k * 4)).block, (ad.add (k * 4)).off + 3, none⟩) = some (.slice ia l.length ic) := (HK.out _ S7.out.old).2.2.2
        have S8 := Lib.hid (show Sl.Sep w _ [L4.boxR w.heap.size 26 #[.string name, .slice (some ad) N c, .int .i64 auto], L4.boxR (w.heap.size + 1) 45 #[.bool rl, .bool rh, .int .i64 lk, .int .i64 ln, .string lt, .int .i64 gk, .int .i64 gn, .string gt], Sv.ownV 40 4 A C m (cellsI ys), Bag.bag (rowsI ys), Bag.bag ([(LI.mk ⟨kd, n, t⟩ a1 c1 l).row]), Sv.ownV 40 4 (some ⟨w4.heap.size, 0, none⟩) 1 1 (cellsI [⟨⟨kd, n, t⟩, a1, c1, l⟩])] from Sv.push_own S7.out ((Below.refl _ _).alloc (Nat.le_refl _) _) (OwnV.madeAt w4 40 4 1 w4.heap.size #[.int .i64 kd, .int .i64 n, .string t, .slice a1 l.length c1] rfl (Nat.le_refl _) rfl (by decide)))
        clear S7
        go_wp2_with (at_builtin; refine L5.wpList_append_v S8.out 2 rfl rfl _ _ 24 (by rfl) i0 (.agg #[.int .i64 0, .int .i64 0, .string ⟨#[]⟩, .slice none 0 0]) 56 Try.underlying24 HI.out.1 HI.out.2.1 HI.out.2.2.1 HI.out.2.2.2 rfl (by omega) _ (by rfl) rfl _ _ 1 _ _ (cellsI [⟨⟨kd, n, t⟩, a1, c1, l⟩]) (by rfl) rfl (Sv.own_at S8.out 5 rfl).reads rfl (cellsI_one _) (by unfold maxLen; omega) (by omega) ?_; intro a2' c2' w5 hA)
        have S9 := Lib.hid (show Sl.Sep w _ [L4.boxR w.heap.size 26 #[.string name, .slice (some ad) N c, .int .i64 auto], L4.boxR (w.heap.size + 1) 45 #[.bool rl, .bool rh, .int .i64 lk, .int .i64 ln, .string lt, .int .i64 gk, .int .i64 gn, .string gt], Sv.ownV 40 4 a2' c2' (m + 1) (cellsI ys ++ (cellsI [⟨⟨kd, n, t⟩, a1, c1, l⟩])), Bag.bag (rowsI ys), Bag.bag ([(LI.mk ⟨kd, n, t⟩ a1 c1 l).row]), Sv.ownV 40 4 (some ⟨w4.heap.size, 0, none⟩) 1 1 (cellsI [⟨⟨kd, n, t⟩, a1, c1, l⟩])] from hA)
        clear S8
        clear hA
        clear f0 f1 f2 f3 f4 f5 f6 f7 f8 f9 f10 f11 f12 f13 f14
        have S10 := Lib.hid (show Sl.Sep w _ [L4.boxR w.heap.size 26 #[.string name, .slice (some ad) N c, .int .i64 auto], L4.boxR (w.heap.size + 1) 45 #[.bool rl, .bool rh, .int .i64 lk, .int .i64 ln, .string lt, .int .i64 gk, .int .i64 gn, .string gt], Sv.ownV 40 4 a2' c2' (m + 1) (cellsI ys ++ (cellsI [⟨⟨kd, n, t⟩, a1, c1, l⟩])), Bag.bag (rowsI ys ++ ([(LI.mk ⟨kd, n, t⟩ a1 c1 l).row])), Bag.bag ([]), Sv.ownV 40 4 (some ⟨w4.heap.size, 0, none⟩) 1 1 (cellsI [⟨⟨kd, n, t⟩, a1, c1, l⟩])] from Bag.bag_join S9.out 3 4 (by decide) rfl rfl)
        clear S9
        have S11 := Lib.hid (show Sl.Sep w _ [L4.boxR w.heap.size 26 #[.string name, .slice (some ad) N c, .int .i64 auto], L4.boxR (w.heap.size + 1) 45 #[.bool rl, .bool rh, .int .i64 lk, .int .i64 ln, .string lt, .int .i64 gk, .int .i64 gn, .string gt], Sv.ownV 40 4 a2' c2' (m + 1) (cellsI ys ++ (cellsI [⟨⟨kd, n, t⟩, a1, c1, l⟩])), Bag.bag (rowsI ys ++ ([(LI.mk ⟨kd, n, t⟩ a1 c1 l).row]))] from Bag.take S10.out [0, 1, 2, 3] (by rfl) (by decide))
        clear S10
        go_roundw
        case rel =>
          refine ⟨k + 1, m + 1, a2', c2', ys ++ [⟨⟨kd, n, t⟩, a1, c1, l⟩], by omega, by go_num, rfl, by omega, And.intro ⟨?_, ?_⟩ ?_⟩
          · rw [List.length_append, ← HC.out.1]; rfl
          · rw [HT.out, HB.out, conI_snoc, HC.out.2]; rfl
          · rw [cellsI_append, rowsI_append]; exact S11.out
        case measure => simp [intOf]; omega
    · skip
      have f0 : World.cell? _ ⟨w.heap.size, 0, none⟩ = some (.string name) := Bag.cell_at S4.out 0 rfl 0 rfl
      have f1 : World.cell? _ ⟨w.heap.size, 1, none⟩ = some (.slice a N c) := Bag.cell_at S4.out 0 rfl 1 rfl
      have f2 : World.cell? _ ⟨w.heap.size, 2, none⟩ = some (.int .i64 auto) := Bag.cell_at S4.out 0 rfl 2 rfl
      have f3 : World.cell? _ ⟨w.heap.size + 1, 0, none⟩ = some (.bool rl) := Bag.cell_at S4.out 1 rfl 0 rfl
      have f4 : World.cell? _ ⟨w.heap.size + 1, 1, none⟩ = some (.bool rh) := Bag.cell_at S4.out 1 rfl 1 rfl
      have f5 : World.cell? _ ⟨w.heap.size + 1, 2, none⟩ = some (.int .i64 lk) := Bag.cell_at S4.out 1 rfl 2 rfl
      have f6 : World.cell? _ ⟨w.heap.size + 1, 3, none⟩ = some (.int .i64 ln) := Bag.cell_at S4.out 1 rfl 3 rfl
      have f7 : World.cell? _ ⟨w.heap.size + 1, 4, none⟩ = some (.string lt) := Bag.cell_at S4.out 1 rfl 4 rfl
      have f8 : World.cell? _ ⟨w.heap.size + 1, 5, none⟩ = some (.int .i64 gk) := Bag.cell_at S4.out 1 rfl 5 rfl
      have f9 : World.cell? _ ⟨w.heap.size + 1, 6, none⟩ = some (.int .i64 gn) := Bag.cell_at S4.out 1 rfl 6 rfl
      have f10 : World.cell? _ ⟨w.heap.size + 1, 7, none⟩ = some (.string gt) := Bag.cell_at S4.out 1 rfl 7 rfl
      go_wp2_with fail
      go_ret
      obtain rfl : k = N := by omega
      obtain ⟨hm, hc⟩ := HC.out
      rw [List.take_of_length_le (show (conI xs).length ≤ k by have := HN.out; simp; omega)] at hc
      subst hm
      have S90 := Lib.hid (Bag.bag_of_one S4.out 2 (r := rowI A C ys) rfl)
      have S91 := Lib.hid (Bag.bag_join S90.out 2 3 (by decide) rfl rfl)
      exact ⟨A, C, ys, rfl, hc, Bag.bag_from S91.out 2 rfl, S91.out.old⟩
set_option maxHeartbeats 8000000 in
theorem specDeleteItems_any (y : LS) (r : R) (hf : FitS y.con) (hr1 : r.lo.text.size ≤ 281474976710656) (hr2 : r.hi.text.size ≤ 281474976710656) (w : World) (hr : RowsRd w w.heap.size y.rows) :
    Calls Try.prog 48 #[y.v, r.v] w (GaveSN w (delS y.con r) (delN y.con r)) := by
  obtain ⟨i0, hi1, hi2, hi3, hi4⟩ := itemInfo
  have HI := Lib.hid (And.intro hi1 (And.intro hi2 (And.intro hi3 hi4)))
  clear hi1 hi2 hi3 hi4
  obtain ⟨rl, rh, ⟨lk, ln, lt⟩, ⟨gk, gn, gt⟩⟩ := r
  unfold L4.R.v
  dsimp only at *
  have HIS := Lib.hid (fun w' (h : Below w.heap.size w w') => specIsStore_any y hf w' ((hr.below h).more h.size))
  have HCP := Lib.hid (fun w' (h : Below w.heap.size w w') => l6Copy_any y hf w' ((hr.below h).more h.size))
  obtain ⟨name, a, c, xs, auto⟩ := y
  have HR := Lib.hid (fun w' (h : Below w.heap.size w w') => LS.outer (hr.below h))
  have HX := Lib.hid (fun w' (h : Below w.heap.size w w') => (LS.inner (hr.below h)).more h.size)
  have HF := Lib.hid hf.items
  have HNM := Lib.hid hf.name
  have hl := hf.len
  simp only [LS.con, conI_length] at hl
  dsimp only [LS.con] at HR HX HF HNM
  try unfold LS.v LS.cells LS.con
  try dsimp only
  obtain ⟨N, hN⟩ : ∃ n, n = xs.length := ⟨_, rfl⟩
  rw [← hN] at hl ⊢
  have hl' : (N : Int) ≤ 1048576 := by omega
  have HN := Lib.hid hN
  clear hN hr hf
  dsimp only [LS.v, LS.cells, LS.con] at HIS HCP
  rw [← HN.out] at HIS HCP
  obtain ⟨bs, hbs⟩ : ∃ b, isS ⟨name, conI xs, auto⟩ = b := ⟨_, rfl⟩
  rw [hbs] at HIS
  have HBS := Lib.hid hbs
  have HD := Lib.hid (show (delS ⟨name, conI xs, auto⟩ ⟨rl, rh, ⟨lk, ln, lt⟩, ⟨gk, gn, gt⟩⟩ = if bs then ⟨name, outI (conI xs) ⟨rl, rh, ⟨lk, ln, lt⟩, ⟨gk, gn, gt⟩⟩, auto⟩ else ⟨name, conI xs, auto⟩) ∧ delN ⟨name, conI xs, auto⟩ ⟨rl, rh, ⟨lk, ln, lt⟩, ⟨gk, gn, gt⟩⟩ = if bs then ((N : Int) - (outI (conI xs) ⟨rl, rh, ⟨lk, ln, lt⟩, ⟨gk, gn, gt⟩⟩).length) else 0 from by unfold delS delN; rw [hbs, HN.out]; simp)
  clear hbs
  have S1 := Lib.hid (show Sl.Sep w (((w.alloc (.cells #[.string name, .slice a N c, .int .i64 auto] 26)).alloc (.cells #[.bool rl, .bool rh, .int .i64 lk, .int .i64 ln, .string lt, .int .i64 gk, .int .i64 gn, .string gt] 45)).alloc (.cells #[.string ⟨#[]⟩, .slice none 0 0, .int .i64 0] 26)) [L4.boxR w.heap.size 26 #[.string name, .slice a N c, .int .i64 auto], L4.boxR (w.heap.size + 1) 45 #[.bool rl, .bool rh, .int .i64 lk, .int .i64 ln, .string lt, .int .i64 gk, .int .i64 gn, .string gt], L4.boxR (w.heap.size + 1 + 1) 26 #[.string ⟨#[]⟩, .slice none 0 0, .int .i64 0]] from L4.push_box (L4.push_box (L4.push_box (Sl.Sep.start w) 26 #[.string name, .slice a N c, .int .i64 auto] (w.heap.size) (by simp)) 45 #[.bool rl, .bool rh, .int .i64 lk, .int .i64 ln, .string lt, .int .i64 gk, .int .i64 gn, .string gt] (w.heap.size + 1) (by simp)) 26 #[.string ⟨#[]⟩, .slice none 0 0, .int .i64 0] (w.heap.size + 1 + 1) (by simp))
  obtain ⟨wa, hwa⟩ : ∃ u, u = (((w.alloc (.cells #[.string name, .slice a N c, .int .i64 auto] 26)).alloc (.cells #[.bool rl, .bool rh, .int .i64 lk, .int .i64 ln, .string lt, .int .i64 gk, .int .i64 gn, .string gt] 45)).alloc (.cells #[.string ⟨#[]⟩, .slice none 0 0, .int .i64 0] 26)) := ⟨_, rfl⟩
  rw [← hwa] at S1
  go_enter Try.func48, Try.ntmps48
  go_upto_region 1 with fail
  rw [← hwa]
  clear hwa
  have f0 : World.cell? _ ⟨w.heap.size, 0, none⟩ = some (.string name) := Bag.cell_at S1.out 0 rfl 0 rfl
  have f1 : World.cell? _ ⟨w.heap.size, 1, none⟩ = some (.slice a N c) := Bag.cell_at S1.out 0 rfl 1 rfl
  have f2 : World.cell? _ ⟨w.heap.size, 2, none⟩ = some (.int .i64 auto) := Bag.cell_at S1.out 0 rfl 2 rfl
  have f3 : World.cell? _ ⟨w.heap.size + 1, 0, none⟩ = some (.bool rl) := Bag.cell_at S1.out 1 rfl 0 rfl
  have f4 : World.cell? _ ⟨w.heap.size + 1, 1, none⟩ = some (.bool rh) := Bag.cell_at S1.out 1 rfl 1 rfl
  have f5 : World.cell? _ ⟨w.heap.size + 1, 2, none⟩ = some (.int .i64 lk) := Bag.cell_at S1.out 1 rfl 2 rfl
  have f6 : World.cell? _ ⟨w.heap.size + 1, 3, none⟩ = some (.int .i64 ln) := Bag.cell_at S1.out 1 rfl 3 rfl
  have f7 : World.cell? _ ⟨w.heap.size + 1, 4, none⟩ = some (.string lt) := Bag.cell_at S1.out 1 rfl 4 rfl
  have f8 : World.cell? _ ⟨w.heap.size + 1, 5, none⟩ = some (.int .i64 gk) := Bag.cell_at S1.out 1 rfl 5 rfl
  have f9 : World.cell? _ ⟨w.heap.size + 1, 6, none⟩ = some (.int .i64 gn) := Bag.cell_at S1.out 1 rfl 6 rfl
  have f10 : World.cell? _ ⟨w.heap.size + 1, 7, none⟩ = some (.string gt) := Bag.cell_at S1.out 1 rfl 7 rfl
  have f11 : World.cell? _ ⟨w.heap.size + 1 + 1, 0, none⟩ = some (.string ⟨#[]⟩) := Bag.cell_at S1.out 2 rfl 0 rfl
  have f12 : World.cell? _ ⟨w.heap.size + 1 + 1, 1, none⟩ = some (.slice none 0 0) := Bag.cell_at S1.out 2 rfl 1 rfl
  have f13 : World.cell? _ ⟨w.heap.size + 1 + 1, 2, none⟩ = some (.int .i64 0) := Bag.cell_at S1.out 2 rfl 2 rfl
  go_wp2_with fail
  go_at_call 28
  refine (HIS.out _ S1.out.old).mono ?_
  rintro e w1 ⟨rfl, hb⟩
  clear f0 f1 f2 f3 f4 f5 f6 f7 f8 f9 f10 f11 f12 f13
  have S2 := Lib.hid (show Sl.Sep w _ [L4.boxR w.heap.size 26 #[.string name, .slice a N c, .int .i64 auto], L4.boxR (w.heap.size + 1) 45 #[.bool rl, .bool rh, .int .i64 lk, .int .i64 ln, .string lt, .int .i64 gk, .int .i64 gn, .string gt], L4.boxR (w.heap.size + 1 + 1) 26 #[.string ⟨#[]⟩, .slice none 0 0, .int .i64 0]] from S1.out.keep hb)
  clear S1
  clear hb
  have f0 : World.cell? _ ⟨w.heap.size, 0, none⟩ = some (.string name) := Bag.cell_at S2.out 0 rfl 0 rfl
  have f1 : World.cell? _ ⟨w.heap.size, 1, none⟩ = some (.slice a N c) := Bag.cell_at S2.out 0 rfl 1 rfl
  have f2 : World.cell? _ ⟨w.heap.size, 2, none⟩ = some (.int .i64 auto) := Bag.cell_at S2.out 0 rfl 2 rfl
  have f3 : World.cell? _ ⟨w.heap.size + 1, 0, none⟩ = some (.bool rl) := Bag.cell_at S2.out 1 rfl 0 rfl
  have f4 : World.cell? _ ⟨w.heap.size + 1, 1, none⟩ = some (.bool rh) := Bag.cell_at S2.out 1 rfl 1 rfl
  have f5 : World.cell? _ ⟨w.heap.size + 1, 2, none⟩ = some (.int .i64 lk) := Bag.cell_at S2.out 1 rfl 2 rfl
  have f6 : World.cell? _ ⟨w.heap.size + 1, 3, none⟩ = some (.int .i64 ln) := Bag.cell_at S2.out 1 rfl 3 rfl
  have f7 : World.cell? _ ⟨w.heap.size + 1, 4, none⟩ = some (.string lt) := Bag.cell_at S2.out 1 rfl 4 rfl
  have f8 : World.cell? _ ⟨w.heap.size + 1, 5, none⟩ = some (.int .i64 gk) := Bag.cell_at S2.out 1 rfl 5 rfl
  have f9 : World.cell? _ ⟨w.heap.size + 1, 6, none⟩ = some (.int .i64 gn) := Bag.cell_at S2.out 1 rfl 6 rfl
  have f10 : World.cell? _ ⟨w.heap.size + 1, 7, none⟩ = some (.string gt) := Bag.cell_at S2.out 1 rfl 7 rfl
  have f11 : World.cell? _ ⟨w.heap.size + 1 + 1, 0, none⟩ = some (.string ⟨#[]⟩) := Bag.cell_at S2.out 2 rfl 0 rfl
  have f12 : World.cell? _ ⟨w.heap.size + 1 + 1, 1, none⟩ = some (.slice none 0 0) := Bag.cell_at S2.out 2 rfl 1 rfl
  have f13 : World.cell? _ ⟨w.heap.size + 1 + 1, 2, none⟩ = some (.int .i64 0) := Bag.cell_at S2.out 2 rfl 2 rfl
  cases bs with
  | false =>
    go_wp2_with fail
    go_at_call 66
    refine (HCP.out _ S2.out.old).mono ?_
    rintro e w2 ⟨⟨nm3, a3, c3, ys, au3⟩, rfl, hcon, ho, hb⟩
    clear f0 f1 f2 f3 f4 f5 f6 f7 f8 f9 f10 f11 f12 f13
    have S3 := Lib.hid (show Sl.Sep w _ [L4.boxR w.heap.size 26 #[.string name, .slice a N c, .int .i64 auto], L4.boxR (w.heap.size + 1) 45 #[.bool rl, .bool rh, .int .i64 lk, .int .i64 ln, .string lt, .int .i64 gk, .int .i64 gn, .string gt], L4.boxR (w.heap.size + 1 + 1) 26 #[.string ⟨#[]⟩, .slice none 0 0, .int .i64 0], Bag.bag ((LS.mk nm3 a3 c3 ys au3).rows)] from Bag.push_bag S2.out hb ho)
    clear S2
    clear hb ho
    have HCON := Lib.hid hcon
    clear hcon
    simp only [LS.v, LS.cells]
    have f0 : World.cell? _ ⟨w.heap.size + 1 + 1, 0, none⟩ = some (.string ⟨#[]⟩) := Bag.cell_at S3.out 2 rfl 0 rfl
    have f1 : World.cell? _ ⟨w.heap.size + 1 + 1, 1, none⟩ = some (.slice none 0 0) := Bag.cell_at S3.out 2 rfl 1 rfl
    have f2 : World.cell? _ ⟨w.heap.size + 1 + 1, 2, none⟩ = some (.int .i64 0) := Bag.cell_at S3.out 2 rfl 2 rfl
    have z0 := Bag.free_at S3.out 2 rfl 0
    have z1 := Bag.free_at S3.out 2 rfl 1
    have z2 := Bag.free_at S3.out 2 rfl 2
    go_wp2_with fail
    clear f0 f1 f2 z0 z1 z2
    have S4 := Lib.hid (show Sl.Sep w _ [L4.boxR w.heap.size 26 #[.string name, .slice a N c, .int .i64 auto], L4.boxR (w.heap.size + 1) 45 #[.bool rl, .bool rh, .int .i64 lk, .int .i64 ln, .string lt, .int .i64 gk, .int .i64 gn, .string gt], L4.boxR (w.heap.size + 1 + 1) 26 #[.string nm3, .slice a3 ys.length c3, .int .i64 au3], Bag.bag ((LS.mk nm3 a3 c3 ys au3).rows)] from L5.put_box5 (L5.put_box5 (L5.put_box5 (S3.out) 2 rfl 0 (.string nm3)) 2 rfl 1 (.slice a3 ys.length c3)) 2 rfl 2 (.int .i64 au3))
    clear S3
    have f0 : World.cell? _ ⟨w.heap.size + 1 + 1, 0, none⟩ = some (.string nm3) := Bag.cell_at S4.out 2 rfl 0 rfl
    have f1 : World.cell? _ ⟨w.heap.size + 1 + 1, 1, none⟩ = some (.slice a3 ys.length c3) := Bag.cell_at S4.out 2 rfl 1 rfl
    have f2 : World.cell? _ ⟨w.heap.size + 1 + 1, 2, none⟩ = some (.int .i64 au3) := Bag.cell_at S4.out 2 rfl 2 rfl
    refine bodyPost_ret (v := .tuple #[.agg #[.string nm3, .slice a3 ys.length c3, .int .i64 au3], .int .i64 0]) (by simp [results, Try.results48, go_sem, *]) rfl ?_
    exact ⟨⟨nm3, a3, c3, ys, au3⟩, by rw [HD.out.2]; rfl, by rw [HD.out.1]; exact HCON.out, Bag.bag_from S4.out 3 rfl, S4.out.old⟩
  | true =>
    go_upto_region 4 with fail
    clear f0 f1 f2 f3 f4 f5 f6 f7 f8 f9 f10 f11 f12 f13
    have S3 := Lib.hid (show Sl.Sep w _ [L4.boxR w.heap.size 26 #[.string name, .slice a N c, .int .i64 auto], L4.boxR (w.heap.size + 1) 45 #[.bool rl, .bool rh, .int .i64 lk, .int .i64 ln, .string lt, .int .i64 gk, .int .i64 gn, .string gt], L4.boxR (w.heap.size + 1 + 1) 26 #[.string ⟨#[]⟩, .slice none 0 0, .int .i64 0], L4.boxR w1.heap.size 26 #[.string name, .slice none 0 0, .int .i64 auto]] from L4.push_box S2.out 26 #[.string name, .slice none 0 0, .int .i64 auto] w1.heap.size rfl)
    clear S2
    obtain ⟨g1, hg⟩ : ∃ g', g' = w1.heap.size := ⟨_, rfl⟩
    rw [← hg] at S3 ⊢
    clear hg
    generalize w1.alloc (.cells #[.string name, .slice none 0 0, .int .i64 auto] 26) = w2 at S3 ⊢
    have S4 := Lib.hid (show Sl.Sep w _ [L4.boxR w.heap.size 26 #[.string name, .slice a N c, .int .i64 auto], L4.boxR (w.heap.size + 1) 45 #[.bool rl, .bool rh, .int .i64 lk, .int .i64 ln, .string lt, .int .i64 gk, .int .i64 gn, .string gt], L4.boxR (w.heap.size + 1 + 1) 26 #[.string ⟨#[]⟩, .slice none 0 0, .int .i64 0], L4.boxR g1 26 #[.string name, .slice none 0 0, .int .i64 auto], Sv.ownV 40 4 none 0 0 (cellsI [])] from Sv.push_own S3.out (Below.refl _ _) (OwnV.nil _ _ _ _))
    clear S3
    have S5 := Lib.hid (show Sl.Sep w _ [L4.boxR w.heap.size 26 #[.string name, .slice a N c, .int .i64 auto], L4.boxR (w.heap.size + 1) 45 #[.bool rl, .bool rh, .int .i64 lk, .int .i64 ln, .string lt, .int .i64 gk, .int .i64 gn, .string gt], L4.boxR (w.heap.size + 1 + 1) 26 #[.string ⟨#[]⟩, .slice none 0 0, .int .i64 0], L4.boxR g1 26 #[.string name, .slice none 0 0, .int .i64 auto], Sv.ownV 40 4 none 0 0 (cellsI []), Bag.bag (rowsI [])] from Bag.push_bag S4.out (Below.refl _ _) (Bag.BagOwn.nil _ _))
    clear S4
    go_wp2_with fail
    go_loopw [7] (fun i wr => ∃ (k m : Nat) (A : Option Addr) (C : Nat) (ys : List LI), k ≤ N ∧ i = .int .i64 k ∧ m ≤ k ∧ Hid ((m = ys.length ∧ conI ys = outI ((conI xs).take k) ⟨rl, rh, ⟨lk, ln, lt⟩, ⟨gk, gn, gt⟩⟩) ∧ Sl.Sep w wr [L4.boxR w.heap.size 26 #[.string name, .slice a N c, .int .i64 auto], L4.boxR (w.heap.size + 1) 45 #[.bool rl, .bool rh, .int .i64 lk, .int .i64 ln, .string lt, .int .i64 gk, .int .i64 gn, .string gt], L4.boxR (w.heap.size + 1 + 1) 26 #[.string ⟨#[]⟩, .slice none 0 0, .int .i64 0], L4.boxR g1 26 #[.string name, .slice A m C, .int .i64 auto], Sv.ownV 40 4 A C m (cellsI ys), Bag.bag (rowsI ys)])) (fun i _ => N - (intOf i).toNat)
    case atStart => exact ⟨0, 0, none, 0, [], Nat.zero_le _, rfl, Nat.le_refl _, And.intro ⟨rfl, rfl⟩ S5.out⟩
    case round =>
      obtain ⟨k, m, A, C, ys, hk, rfl, hmk, hrel⟩ := hrel
      have HC := Lib.hid hrel.out.1
      have S6 := Lib.hid hrel.out.2
      clear hrel S5
      by_cases hlt : (k : Int) < (N : Int)
      · skip
        have hkl : k < xs.length := by have := HN.out; omega
        obtain ⟨ad, x, rfl, hx⟩ := readsI_some (HR.out _ S6.out.old) k hkl
        obtain ⟨⟨kd, n, t⟩, ia, ic, l⟩ := x
        have HK := Lib.hid (fun w' (h : Below w.heap.size w w') => readsI_at (HR.out _ h) k _ hx)
        try dsimp only at HK
        have HFI := Lib.hid (fit_at HF.out hx)
        try dsimp only [LI.con] at HFI
        have HCI := Lib.hid (fun w' (h : Below w.heap.size w w') => l6Item_any kd n t ia ic l HFI.out.len w' (((HX.out _ h).at_ (rowsI_mem hx)).reads))
        try dsimp only at HCI
        obtain ⟨b, hb⟩ : ∃ b, inR ⟨kd, n, t⟩ ⟨rl, rh, ⟨lk, ln, lt⟩, ⟨gk, gn, gt⟩⟩ = b := ⟨_, rfl⟩
        have HIN := fun w => L4.specInRangeOf_any ⟨kd, n, t⟩ ⟨rl, rh, ⟨lk, ln, lt⟩, ⟨gk, gn, gt⟩⟩ (by have : t.size ≤ 1099511627776 := HFI.out.text; show t.size ≤ _; omega) hr1 hr2 w
        rw [hb] at HIN
        replace HIN := Lib.hid HIN
        have HB := Lib.hid hb
        clear hb
        have HT := Lib.hid (outI_take (r := ⟨rl, rh, ⟨lk, ln, lt⟩, ⟨gk, gn, gt⟩⟩) (show (conI xs)[k]? = some (⟨⟨kd, n, t⟩, l⟩ : It) from con_of hx))
        clear hx
        dsimp only at HT
        have f0 : World.cell? _ ⟨w.heap.size, 0, none⟩ = some (.string name) := Bag.cell_at S6.out 0 rfl 0 rfl
        have f1 : World.cell? _ ⟨w.heap.size, 1, none⟩ = some (.slice (some ad) N c) := Bag.cell_at S6.out 0 rfl 1 rfl
        have f2 : World.cell? _ ⟨w.heap.size, 2, none⟩ = some (.int .i64 auto) := Bag.cell_at S6.out 0 rfl 2 rfl
        have f3 : World.cell? _ ⟨w.heap.size + 1, 0, none⟩ = some (.bool rl) := Bag.cell_at S6.out 1 rfl 0 rfl
        have f4 : World.cell? _ ⟨w.heap.size + 1, 1, none⟩ = some (.bool rh) := Bag.cell_at S6.out 1 rfl 1 rfl
        have f5 : World.cell? _ ⟨w.heap.size + 1, 2, none⟩ = some (.int .i64 lk) := Bag.cell_at S6.out 1 rfl 2 rfl
        have f6 : World.cell? _ ⟨w.heap.size + 1, 3, none⟩ = some (.int .i64 ln) := Bag.cell_at S6.out 1 rfl 3 rfl
        have f7 : World.cell? _ ⟨w.heap.size + 1, 4, none⟩ = some (.string lt) := Bag.cell_at S6.out 1 rfl 4 rfl
        have f8 : World.cell? _ ⟨w.heap.size + 1, 5, none⟩ = some (.int .i64 gk) := Bag.cell_at S6.out 1 rfl 5 rfl
        have f9 : World.cell? _ ⟨w.heap.size + 1, 6, none⟩ = some (.int .i64 gn) := Bag.cell_at S6.out 1 rfl 6 rfl
        have f10 : World.cell? _ ⟨w.heap.size + 1, 7, none⟩ = some (.string gt) := Bag.cell_at S6.out 1 rfl 7 rfl
        have f11 : World.cell? _ ⟨w.heap.size + 1 + 1, 0, none⟩ = some (.string ⟨#[]⟩) := Bag.cell_at S6.out 2 rfl 0 rfl
        have f12 : World.cell? _ ⟨w.heap.size + 1 + 1, 1, none⟩ = some (.slice none 0 0) := Bag.cell_at S6.out 2 rfl 1 rfl
        have f13 : World.cell? _ ⟨w.heap.size + 1 + 1, 2, none⟩ = some (.int .i64 0) := Bag.cell_at S6.out 2 rfl 2 rfl
        have f14 : World.cell? _ ⟨g1, 0, none⟩ = some (.string name) := Bag.cell_at S6.out 3 rfl 0 rfl
        have f15 : World.cell? _ ⟨g1, 1, none⟩ = some (.slice A m C) := Bag.cell_at S6.out 3 rfl 1 rfl
        have f16 : World.cell? _ ⟨g1, 2, none⟩ = some (.int .i64 auto) := Bag.cell_at S6.out 3 rfl 2 rfl
        have f17 : World.cell? _ (ad.add (k * 4)) = some (.int .i64 kd) := (HK.out _ S6.out.old).1
        have f18 : World.cell? _ (⟨(ad.add (k * 4)).block, (ad.add (k * 4)).off + 1, none⟩) = some (.int .i64 n) := (HK.out _ S6.out.old).2.1
        have f19 : World.cell? _ (⟨(ad.add (k * 4)).block, (ad.add (k * 4)).off + 2, none⟩) = some (.string t) := (HK.out _ S6.out.old).2.2.1
        have f20 : World.cell? _ (⟨(ad.add (k * 4)).block, (ad.add (k * 4)).off + 3, none⟩) = some (.slice ia l.length ic) := (HK.out _ S6.out.old).2.2.2
        cases b with
        | true =>
          go_upto_region 7 with fail
          clear f0 f1 f2 f3 f4 f5 f6 f7 f8 f9 f10 f11 f12 f13 f14 f15 f16 f17 f18 f19 f20
          refine wp_region_held_drew (S := (fun w' => World.cell? w' ⟨w.heap.size, 0, none⟩ = some (.string name) ∧ World.cell? w' ⟨w.heap.size, 1, none⟩ = some (.slice (some ad) N c) ∧ World.cell? w' ⟨w.heap.size, 2, none⟩ = some (.int .i64 auto) ∧ World.cell? w' ⟨w.heap.size + 1, 0, none⟩ = some (.bool rl) ∧ World.cell? w' ⟨w.heap.size + 1, 1, none⟩ = some (.bool rh) ∧ World.cell? w' ⟨w.heap.size + 1, 2, none⟩ = some (.int .i64 lk) ∧ World.cell? w' ⟨w.heap.size + 1, 3, none⟩ = some (.int .i64 ln) ∧ World.cell? w' ⟨w.heap.size + 1, 4, none⟩ = some (.string lt) ∧ World.cell? w' ⟨w.heap.size + 1, 5, none⟩ = some (.int .i64 gk) ∧ World.cell? w' ⟨w.heap.size + 1, 6, none⟩ = some (.int .i64 gn) ∧ World.cell? w' ⟨w.heap.size + 1, 7, none⟩ = some (.string gt) ∧ World.cell? w' ⟨w.heap.size + 1 + 1, 0, none⟩ = some (.string ⟨#[]⟩) ∧ World.cell? w' ⟨w.heap.size + 1 + 1, 1, none⟩ = some (.slice none 0 0) ∧ World.cell? w' ⟨w.heap.size + 1 + 1, 2, none⟩ = some (.int .i64 0) ∧ World.cell? w' ⟨g1, 0, none⟩ = some (.string name) ∧ World.cell? w' ⟨g1, 1, none⟩ = some (.slice A m C) ∧ World.cell? w' ⟨g1, 2, none⟩ = some (.int .i64 auto) ∧ World.cell? w' (ad.add (k * 4)) = some (.int .i64 kd) ∧ World.cell? w' (⟨(ad.add (k * 4)).block, (ad.add (k * 4)).off + 1, none⟩) = some (.int .i64 n) ∧ World.cell? w' (⟨(ad.add (k * 4)).block, (ad.add (k * 4)).off + 2, none⟩) = some (.string t) ∧ World.cell? w' (⟨(ad.add (k * 4)).block, (ad.add (k * 4)).off + 3, none⟩) = some (.slice ia l.length ic))) (by kernel_rfl) ⟨Bag.cell_at S6.out 0 rfl 0 rfl, Bag.cell_at S6.out 0 rfl 1 rfl, Bag.cell_at S6.out 0 rfl 2 rfl, Bag.cell_at S6.out 1 rfl 0 rfl, Bag.cell_at S6.out 1 rfl 1 rfl, Bag.cell_at S6.out 1 rfl 2 rfl, Bag.cell_at S6.out 1 rfl 3 rfl, Bag.cell_at S6.out 1 rfl 4 rfl, Bag.cell_at S6.out 1 rfl 5 rfl, Bag.cell_at S6.out 1 rfl 6 rfl, Bag.cell_at S6.out 1 rfl 7 rfl, Bag.cell_at S6.out 2 rfl 0 rfl, Bag.cell_at S6.out 2 rfl 1 rfl, Bag.cell_at S6.out 2 rfl 2 rfl, Bag.cell_at S6.out 3 rfl 0 rfl, Bag.cell_at S6.out 3 rfl 1 rfl, Bag.cell_at S6.out 3 rfl 2 rfl, (HK.out _ S6.out.old).1, (HK.out _ S6.out.old).2.1, (HK.out _ S6.out.old).2.2.1, (HK.out _ S6.out.old).2.2.2⟩ (fun hS => ?_)
          have S7 := Lib.hid (show Sl.Sep w _ [L4.boxR w.heap.size 26 #[.string name, .slice (some ad) N c, .int .i64 auto], L4.boxR (w.heap.size + 1) 45 #[.bool rl, .bool rh, .int .i64 lk, .int .i64 ln, .string lt, .int .i64 gk, .int .i64 gn, .string gt], L4.boxR (w.heap.size + 1 + 1) 26 #[.string ⟨#[]⟩, .slice none 0 0, .int .i64 0], L4.boxR g1 26 #[.string name, .slice A m C, .int .i64 auto], Sv.ownV 40 4 A C m (cellsI ys), Bag.bag (rowsI ys)] from Bag.drew1 S6.out)
          clear S6
          generalize World.drew _ = w3 at hS S7 ⊢
          refine tk 0 rfl ?_
          try simp only [zp0, zp1, zp2, zp3, zp4]
          refine tk 1 rfl ?_
          try simp only [zp0, zp1, zp2, zp3, zp4]
          refine tk 2 rfl ?_
          try simp only [zp0, zp1, zp2, zp3, zp4]
          refine tk 3 rfl ?_
          try simp only [zp0, zp1, zp2, zp3, zp4]
          refine tk 4 rfl ?_
          try simp only [zp0, zp1, zp2, zp3, zp4]
          refine tk 5 rfl ?_
          try simp only [zp0, zp1, zp2, zp3, zp4]
          refine tk 6 rfl ?_
          try simp only [zp0, zp1, zp2, zp3, zp4]
          refine Reg.one_op (i := 7) rfl (by kernel_rfl) (fun K hK => ?_)
          go_simp
          go_at_call 29
          refine (HIN.out _).mono ?_
          rintro e w4 ⟨rfl, hb⟩
          have S8 := Lib.hid (show Sl.Sep w _ [L4.boxR w.heap.size 26 #[.string name, .slice (some ad) N c, .int .i64 auto], L4.boxR (w.heap.size + 1) 45 #[.bool rl, .bool rh, .int .i64 lk, .int .i64 ln, .string lt, .int .i64 gk, .int .i64 gn, .string gt], L4.boxR (w.heap.size + 1 + 1) 26 #[.string ⟨#[]⟩, .slice none 0 0, .int .i64 0], L4.boxR g1 26 #[.string name, .slice A m C, .int .i64 auto], Sv.ownV 40 4 A C m (cellsI ys), Bag.bag (rowsI ys)] from S7.out.keep hb)
          clear S7
          clear hb
          go_wp2_with fail
          refine hK.out _ _ ⟨Bag.cell_at S8.out 0 rfl 0 rfl, Bag.cell_at S8.out 0 rfl 1 rfl, Bag.cell_at S8.out 0 rfl 2 rfl, Bag.cell_at S8.out 1 rfl 0 rfl, Bag.cell_at S8.out 1 rfl 1 rfl, Bag.cell_at S8.out 1 rfl 2 rfl, Bag.cell_at S8.out 1 rfl 3 rfl, Bag.cell_at S8.out 1 rfl 4 rfl, Bag.cell_at S8.out 1 rfl 5 rfl, Bag.cell_at S8.out 1 rfl 6 rfl, Bag.cell_at S8.out 1 rfl 7 rfl, Bag.cell_at S8.out 2 rfl 0 rfl, Bag.cell_at S8.out 2 rfl 1 rfl, Bag.cell_at S8.out 2 rfl 2 rfl, Bag.cell_at S8.out 3 rfl 0 rfl, Bag.cell_at S8.out 3 rfl 1 rfl, Bag.cell_at S8.out 3 rfl 2 rfl, (HK.out _ S8.out.old).1, (HK.out _ S8.out.old).2.1, (HK.out _ S8.out.old).2.2.1, (HK.out _ S8.out.old).2.2.2⟩ (fun hS => ?_)
          clear hK K
          try simp only [zp0, zp1, zp2, zp3, zp4]
          refine tk 8 rfl ?_
          try simp only [zp0, zp1, zp2, zp3, zp4]
          refine wpAnyH_done (by kernel_rfl) ?_ _
          have f0 : World.cell? _ ⟨w.heap.size, 0, none⟩ = some (.string name) := Bag.cell_at S8.out 0 rfl 0 rfl
          have f1 : World.cell? _ ⟨w.heap.size, 1, none⟩ = some (.slice (some ad) N c) := Bag.cell_at S8.out 0 rfl 1 rfl
          have f2 : World.cell? _ ⟨w.heap.size, 2, none⟩ = some (.int .i64 auto) := Bag.cell_at S8.out 0 rfl 2 rfl
          have f3 : World.cell? _ ⟨w.heap.size + 1, 0, none⟩ = some (.bool rl) := Bag.cell_at S8.out 1 rfl 0 rfl
          have f4 : World.cell? _ ⟨w.heap.size + 1, 1, none⟩ = some (.bool rh) := Bag.cell_at S8.out 1 rfl 1 rfl
          have f5 : World.cell? _ ⟨w.heap.size + 1, 2, none⟩ = some (.int .i64 lk) := Bag.cell_at S8.out 1 rfl 2 rfl
          have f6 : World.cell? _ ⟨w.heap.size + 1, 3, none⟩ = some (.int .i64 ln) := Bag.cell_at S8.out 1 rfl 3 rfl
          have f7 : World.cell? _ ⟨w.heap.size + 1, 4, none⟩ = some (.string lt) := Bag.cell_at S8.out 1 rfl 4 rfl
          have f8 : World.cell? _ ⟨w.heap.size + 1, 5, none⟩ = some (.int .i64 gk) := Bag.cell_at S8.out 1 rfl 5 rfl
          have f9 : World.cell? _ ⟨w.heap.size + 1, 6, none⟩ = some (.int .i64 gn) := Bag.cell_at S8.out 1 rfl 6 rfl
          have f10 : World.cell? _ ⟨w.heap.size + 1, 7, none⟩ = some (.string gt) := Bag.cell_at S8.out 1 rfl 7 rfl
          have f11 : World.cell? _ ⟨w.heap.size + 1 + 1, 0, none⟩ = some (.string ⟨#[]⟩) := Bag.cell_at S8.out 2 rfl 0 rfl
          have f12 : World.cell? _ ⟨w.heap.size + 1 + 1, 1, none⟩ = some (.slice none 0 0) := Bag.cell_at S8.out 2 rfl 1 rfl
          have f13 : World.cell? _ ⟨w.heap.size + 1 + 1, 2, none⟩ = some (.int .i64 0) := Bag.cell_at S8.out 2 rfl 2 rfl
          have f14 : World.cell? _ ⟨g1, 0, none⟩ = some (.string name) := Bag.cell_at S8.out 3 rfl 0 rfl
          have f15 : World.cell? _ ⟨g1, 1, none⟩ = some (.slice A m C) := Bag.cell_at S8.out 3 rfl 1 rfl
          have f16 : World.cell? _ ⟨g1, 2, none⟩ = some (.int .i64 auto) := Bag.cell_at S8.out 3 rfl 2 rfl
          have f17 : World.cell? _ (ad.add (k * 4)) = some (.int .i64 kd) := (HK.out _ S8.out.old).1
          have f18 : World.cell? _ (⟨(ad.add (k * 4)).block, (ad.add (k * 4)).off + 1, none⟩) = some (.int .i64 n) := (HK.out _ S8.out.old).2.1
          have f19 : World.cell? _ (⟨(ad.add (k * 4)).block, (ad.add (k * 4)).off + 2, none⟩) = some (.string t) := (HK.out _ S8.out.old).2.2.1
          have f20 : World.cell? _ (⟨(ad.add (k * 4)).block, (ad.add (k * 4)).off + 3, none⟩) = some (.slice ia l.length ic) := (HK.out _ S8.out.old).2.2.2
          go_wp2_with fail
          go_roundw
          case rel => exact ⟨k + 1, m, A, C, ys, by omega, by go_num, by omega, And.intro ⟨HC.out.1, by rw [HT.out, HB.out, HC.out.2]; simp⟩ S8.out⟩
          case measure => simp [intOf]; omega
        | false =>
          go_upto_region 7 with fail
          clear f0 f1 f2 f3 f4 f5 f6 f7 f8 f9 f10 f11 f12 f13 f14 f15 f16 f17 f18 f19 f20
          refine wp_region_held_drew (S := (fun w' => World.cell? w' ⟨w.heap.size, 0, none⟩ = some (.string name) ∧ World.cell? w' ⟨w.heap.size, 1, none⟩ = some (.slice (some ad) N c) ∧ World.cell? w' ⟨w.heap.size, 2, none⟩ = some (.int .i64 auto) ∧ World.cell? w' ⟨w.heap.size + 1, 0, none⟩ = some (.bool rl) ∧ World.cell? w' ⟨w.heap.size + 1, 1, none⟩ = some (.bool rh) ∧ World.cell? w' ⟨w.heap.size + 1, 2, none⟩ = some (.int .i64 lk) ∧ World.cell? w' ⟨w.heap.size + 1, 3, none⟩ = some (.int .i64 ln) ∧ World.cell? w' ⟨w.heap.size + 1, 4, none⟩ = some (.string lt) ∧ World.cell? w' ⟨w.heap.size + 1, 5, none⟩ = some (.int .i64 gk) ∧ World.cell? w' ⟨w.heap.size + 1, 6, none⟩ = some (.int .i64 gn) ∧ World.cell? w' ⟨w.heap.size + 1, 7, none⟩ = some (.string gt) ∧ World.cell? w' ⟨w.heap.size + 1 + 1, 0, none⟩ = some (.string ⟨#[]⟩) ∧ World.cell? w' ⟨w.heap.size + 1 + 1, 1, none⟩ = some (.slice none 0 0) ∧ World.cell? w' ⟨w.heap.size + 1 + 1, 2, none⟩ = some (.int .i64 0) ∧ World.cell? w' ⟨g1, 0, none⟩ = some (.string name) ∧ World.cell? w' ⟨g1, 1, none⟩ = some (.slice A m C) ∧ World.cell? w' ⟨g1, 2, none⟩ = some (.int .i64 auto) ∧ World.cell? w' (ad.add (k * 4)) = some (.int .i64 kd) ∧ World.cell? w' (⟨(ad.add (k * 4)).block, (ad.add (k * 4)).off + 1, none⟩) = some (.int .i64 n) ∧ World.cell? w' (⟨(ad.add (k * 4)).block, (ad.add (k * 4)).off + 2, none⟩) = some (.string t) ∧ World.cell? w' (⟨(ad.add (k * 4)).block, (ad.add (k * 4)).off + 3, none⟩) = some (.slice ia l.length ic))) (by kernel_rfl) ⟨Bag.cell_at S6.out 0 rfl 0 rfl, Bag.cell_at S6.out 0 rfl 1 rfl, Bag.cell_at S6.out 0 rfl 2 rfl, Bag.cell_at S6.out 1 rfl 0 rfl, Bag.cell_at S6.out 1 rfl 1 rfl, Bag.cell_at S6.out 1 rfl 2 rfl, Bag.cell_at S6.out 1 rfl 3 rfl, Bag.cell_at S6.out 1 rfl 4 rfl, Bag.cell_at S6.out 1 rfl 5 rfl, Bag.cell_at S6.out 1 rfl 6 rfl, Bag.cell_at S6.out 1 rfl 7 rfl, Bag.cell_at S6.out 2 rfl 0 rfl, Bag.cell_at S6.out 2 rfl 1 rfl, Bag.cell_at S6.out 2 rfl 2 rfl, Bag.cell_at S6.out 3 rfl 0 rfl, Bag.cell_at S6.out 3 rfl 1 rfl, Bag.cell_at S6.out 3 rfl 2 rfl, (HK.out _ S6.out.old).1, (HK.out _ S6.out.old).2.1, (HK.out _ S6.out.old).2.2.1, (HK.out _ S6.out.old).2.2.2⟩ (fun hS => ?_)
          have S7 := Lib.hid (show Sl.Sep w _ [L4.boxR w.heap.size 26 #[.string name, .slice (some ad) N c, .int .i64 auto], L4.boxR (w.heap.size + 1) 45 #[.bool rl, .bool rh, .int .i64 lk, .int .i64 ln, .string lt, .int .i64 gk, .int .i64 gn, .string gt], L4.boxR (w.heap.size + 1 + 1) 26 #[.string ⟨#[]⟩, .slice none 0 0, .int .i64 0], L4.boxR g1 26 #[.string name, .slice A m C, .int .i64 auto], Sv.ownV 40 4 A C m (cellsI ys), Bag.bag (rowsI ys)] from Bag.drew1 S6.out)
          clear S6
          generalize World.drew _ = w3 at hS S7 ⊢
          refine tk 0 rfl ?_
          try simp only [zp0, zp1, zp2, zp3, zp4]
          refine tk 1 rfl ?_
          try simp only [zp0, zp1, zp2, zp3, zp4]
          refine tk 2 rfl ?_
          try simp only [zp0, zp1, zp2, zp3, zp4]
          refine tk 3 rfl ?_
          try simp only [zp0, zp1, zp2, zp3, zp4]
          refine tk 4 rfl ?_
          try simp only [zp0, zp1, zp2, zp3, zp4]
          refine tk 5 rfl ?_
          try simp only [zp0, zp1, zp2, zp3, zp4]
          refine tk 6 rfl ?_
          try simp only [zp0, zp1, zp2, zp3, zp4]
          refine Reg.one_op (i := 7) rfl (by kernel_rfl) (fun K hK => ?_)
          go_simp
          go_at_call 29
          refine (HIN.out _).mono ?_
          rintro e w4 ⟨rfl, hb⟩
          have S8 := Lib.hid (show Sl.Sep w _ [L4.boxR w.heap.size 26 #[.string name, .slice (some ad) N c, .int .i64 auto], L4.boxR (w.heap.size + 1) 45 #[.bool rl, .bool rh, .int .i64 lk, .int .i64 ln, .string lt, .int .i64 gk, .int .i64 gn, .string gt], L4.boxR (w.heap.size + 1 + 1) 26 #[.string ⟨#[]⟩, .slice none 0 0, .int .i64 0], L4.boxR g1 26 #[.string name, .slice A m C, .int .i64 auto], Sv.ownV 40 4 A C m (cellsI ys), Bag.bag (rowsI ys)] from S7.out.keep hb)
          clear S7
          clear hb
          go_wp2_with fail
          refine hK.out _ _ ⟨Bag.cell_at S8.out 0 rfl 0 rfl, Bag.cell_at S8.out 0 rfl 1 rfl, Bag.cell_at S8.out 0 rfl 2 rfl, Bag.cell_at S8.out 1 rfl 0 rfl, Bag.cell_at S8.out 1 rfl 1 rfl, Bag.cell_at S8.out 1 rfl 2 rfl, Bag.cell_at S8.out 1 rfl 3 rfl, Bag.cell_at S8.out 1 rfl 4 rfl, Bag.cell_at S8.out 1 rfl 5 rfl, Bag.cell_at S8.out 1 rfl 6 rfl, Bag.cell_at S8.out 1 rfl 7 rfl, Bag.cell_at S8.out 2 rfl 0 rfl, Bag.cell_at S8.out 2 rfl 1 rfl, Bag.cell_at S8.out 2 rfl 2 rfl, Bag.cell_at S8.out 3 rfl 0 rfl, Bag.cell_at S8.out 3 rfl 1 rfl, Bag.cell_at S8.out 3 rfl 2 rfl, (HK.out _ S8.out.old).1, (HK.out _ S8.out.old).2.1, (HK.out _ S8.out.old).2.2.1, (HK.out _ S8.out.old).2.2.2⟩ (fun hS => ?_)
          clear hK K
          try simp only [zp0, zp1, zp2, zp3, zp4]
          refine tk 8 rfl ?_
          try simp only [zp0, zp1, zp2, zp3, zp4]
          refine wpAnyH_done (by kernel_rfl) ?_ _
          have f0 : World.cell? _ ⟨w.heap.size, 0, none⟩ = some (.string name) := Bag.cell_at S8.out 0 rfl 0 rfl
          have f1 : World.cell? _ ⟨w.heap.size, 1, none⟩ = some (.slice (some ad) N c) := Bag.cell_at S8.out 0 rfl 1 rfl
          have f2 : World.cell? _ ⟨w.heap.size, 2, none⟩ = some (.int .i64 auto) := Bag.cell_at S8.out 0 rfl 2 rfl
          have f3 : World.cell? _ ⟨w.heap.size + 1, 0, none⟩ = some (.bool rl) := Bag.cell_at S8.out 1 rfl 0 rfl
          have f4 : World.cell? _ ⟨w.heap.size + 1, 1, none⟩ = some (.bool rh) := Bag.cell_at S8.out 1 rfl 1 rfl
          have f5 : World.cell? _ ⟨w.heap.size + 1, 2, none⟩ = some (.int .i64 lk) := Bag.cell_at S8.out 1 rfl 2 rfl
          have f6 : World.cell? _ ⟨w.heap.size + 1, 3, none⟩ = some (.int .i64 ln) := Bag.cell_at S8.out 1 rfl 3 rfl
          have f7 : World.cell? _ ⟨w.heap.size + 1, 4, none⟩ = some (.string lt) := Bag.cell_at S8.out 1 rfl 4 rfl
          have f8 : World.cell? _ ⟨w.heap.size + 1, 5, none⟩ = some (.int .i64 gk) := Bag.cell_at S8.out 1 rfl 5 rfl
          have f9 : World.cell? _ ⟨w.heap.size + 1, 6, none⟩ = some (.int .i64 gn) := Bag.cell_at S8.out 1 rfl 6 rfl
          have f10 : World.cell? _ ⟨w.heap.size + 1, 7, none⟩ = some (.string gt) := Bag.cell_at S8.out 1 rfl 7 rfl
          have f11 : World.cell? _ ⟨w.heap.size + 1 + 1, 0, none⟩ = some (.string ⟨#[]⟩) := Bag.cell_at S8.out 2 rfl 0 rfl
          have f12 : World.cell? _ ⟨w.heap.size + 1 + 1, 1, none⟩ = some (.slice none 0 0) := Bag.cell_at S8.out 2 rfl 1 rfl
          have f13 : World.cell? _ ⟨w.heap.size + 1 + 1, 2, none⟩ = some (.int .i64 0) := Bag.cell_at S8.out 2 rfl 2 rfl
          have f14 : World.cell? _ ⟨g1, 0, none⟩ = some (.string name) := Bag.cell_at S8.out 3 rfl 0 rfl
          have f15 : World.cell? _ ⟨g1, 1, none⟩ = some (.slice A m C) := Bag.cell_at S8.out 3 rfl 1 rfl
          have f16 : World.cell? _ ⟨g1, 2, none⟩ = some (.int .i64 auto) := Bag.cell_at S8.out 3 rfl 2 rfl
          have f17 : World.cell? _ (ad.add (k * 4)) = some (.int .i64 kd) := (HK.out _ S8.out.old).1
          have f18 : World.cell? _ (⟨(ad.add (k * 4)).block, (ad.add (k * 4)).off + 1, none⟩) = some (.int .i64 n) := (HK.out _ S8.out.old).2.1
          have f19 : World.cell? _ (⟨(ad.add (k * 4)).block, (ad.add (k * 4)).off + 2, none⟩) = some (.string t) := (HK.out _ S8.out.old).2.2.1
          have f20 : World.cell? _ (⟨(ad.add (k * 4)).block, (ad.add (k * 4)).off + 3, none⟩) = some (.slice ia l.length ic) := (HK.out _ S8.out.old).2.2.2
          go_upto_region 8 with fail
          clear f0 f1 f2 f3 f4 f5 f6 f7 f8 f9 f10 f11 f12 f13 f14 f15 f16 f17 f18 f19 f20
          refine Reg.wp_region_late (fun w' => World.cell? w' ⟨w.heap.size, 0, none⟩ = some (.string name) ∧ World.cell? w' ⟨w.heap.size, 1, none⟩ = some (.slice (some ad) N c) ∧ World.cell? w' ⟨w.heap.size, 2, none⟩ = some (.int .i64 auto) ∧ World.cell? w' (ad.add (k * 4)) = some (.int .i64 kd) ∧ World.cell? w' (⟨(ad.add (k * 4)).block, (ad.add (k * 4)).off + 1, none⟩) = some (.int .i64 n) ∧ World.cell? w' (⟨(ad.add (k * 4)).block, (ad.add (k * 4)).off + 2, none⟩) = some (.string t) ∧ World.cell? w' (⟨(ad.add (k * 4)).block, (ad.add (k * 4)).off + 3, none⟩) = some (.slice ia l.length ic)) (fun w' => World.cell? w' ⟨g1, 0, none⟩ = some (.string name) ∧ World.cell? w' ⟨g1, 1, none⟩ = some (.slice A m C) ∧ World.cell? w' ⟨g1, 2, none⟩ = some (.int .i64 auto)) 11 (by kernel_rfl) ⟨Bag.cell_at S8.out 0 rfl 0 rfl, Bag.cell_at S8.out 0 rfl 1 rfl, Bag.cell_at S8.out 0 rfl 2 rfl, (HK.out _ S8.out.old).1, (HK.out _ S8.out.old).2.1, (HK.out _ S8.out.old).2.2.1, (HK.out _ S8.out.old).2.2.2⟩ ⟨Bag.cell_at S8.out 3 rfl 0 rfl, Bag.cell_at S8.out 3 rfl 1 rfl, Bag.cell_at S8.out 3 rfl 2 rfl⟩ (fun hS hL => ?_)
          have S9 := Lib.hid (show Sl.Sep w _ [L4.boxR w.heap.size 26 #[.string name, .slice (some ad) N c, .int .i64 auto], L4.boxR (w.heap.size + 1) 45 #[.bool rl, .bool rh, .int .i64 lk, .int .i64 ln, .string lt, .int .i64 gk, .int .i64 gn, .string gt], L4.boxR (w.heap.size + 1 + 1) 26 #[.string ⟨#[]⟩, .slice none 0 0, .int .i64 0], L4.boxR g1 26 #[.string name, .slice A m C, .int .i64 auto], Sv.ownV 40 4 A C m (cellsI ys), Bag.bag (rowsI ys)] from Bag.drew1 S8.out)
          clear S8
          generalize World.drew _ = w5 at hS hL S9 ⊢
          refine Reg.early_op (i := 0) (v := ?_) rfl (by kernel_rfl) (by kernel_rfl) (by kernel_rfl) rfl (by kernel_rfl) (by kernel_rfl) (fun _ _ _ h => h) (by rfl) ?_ hS hL ?_
          rotate_left
          · (intro w hSw hSv; (try dsimp only at hSw); (try dsimp only at hSv); go_simp; try with_reducible rfl)
          try simp only [zp0, zp1, zp2, zp3, zp4]
          refine Reg.early_op (i := 1) (v := ?_) rfl (by kernel_rfl) (by kernel_rfl) (by kernel_rfl) rfl (by kernel_rfl) (by kernel_rfl) (fun _ _ _ h => h) (by rfl) ?_ hS hL ?_
          rotate_left
          · (intro w hSw hSv; (try dsimp only at hSw); (try dsimp only at hSv); go_simp; try with_reducible rfl)
          try simp only [zp0, zp1, zp2, zp3, zp4]
          refine Reg.early_op (i := 2) (v := ?_) rfl (by kernel_rfl) (by kernel_rfl) (by kernel_rfl) rfl (by kernel_rfl) (by kernel_rfl) (fun _ _ _ h => h) (by rfl) ?_ hS hL ?_
          rotate_left
          · (intro w hSw hSv; (try dsimp only at hSw); (try dsimp only at hSv); go_simp; try with_reducible rfl)
          try simp only [zp0, zp1, zp2, zp3, zp4]
          refine Reg.early_op (i := 3) (v := ?_) rfl (by kernel_rfl) (by kernel_rfl) (by kernel_rfl) rfl (by kernel_rfl) (by kernel_rfl) (fun _ _ _ h => h) (by rfl) ?_ hS hL ?_
          rotate_left
          · (intro w hSw hSv; (try dsimp only at hSw); (try dsimp only at hSv); go_simp; try with_reducible rfl)
          try simp only [zp0, zp1, zp2, zp3, zp4]
          refine Reg.early_op (i := 4) (v := ?_) rfl (by kernel_rfl) (by kernel_rfl) (by kernel_rfl) rfl (by kernel_rfl) (by kernel_rfl) (fun _ _ _ h => h) (by rfl) ?_ hS hL ?_
          rotate_left
          · (intro w hSw hSv; (try dsimp only at hSw); (try dsimp only at hSv); go_simp; try with_reducible rfl)
          try simp only [zp0, zp1, zp2, zp3, zp4]
          refine Reg.early_op (i := 5) (v := ?_) rfl (by kernel_rfl) (by kernel_rfl) (by kernel_rfl) rfl (by kernel_rfl) (by kernel_rfl) (fun _ _ _ h => h) (by rfl) ?_ hS hL ?_
          rotate_left
          · (intro w hSw hSv; (try dsimp only at hSw); (try dsimp only at hSv); go_simp; try with_reducible rfl)
          try simp only [zp0, zp1, zp2, zp3, zp4]
          refine Reg.early_op (i := 6) (v := ?_) rfl (by kernel_rfl) (by kernel_rfl) (by kernel_rfl) rfl (by kernel_rfl) (by kernel_rfl) (fun _ _ _ h => h) (by rfl) ?_ hS hL ?_
          rotate_left
          · (intro w hSw hSv; (try dsimp only at hSw); (try dsimp only at hSv); go_simp; try with_reducible rfl)
          try simp only [zp0, zp1, zp2, zp3, zp4]
          refine Reg.only_op (i := 7) rfl (by kernel_rfl) (fun K hK => ?_)
          go_simp
          go_at_call 97
          refine (HCI.out _ S9.out.old).mono ?_
          rintro e w6 ⟨a1, c1, rfl, ho, hb⟩
          have S10 := Lib.hid (show Sl.Sep w _ [L4.boxR w.heap.size 26 #[.string name, .slice (some ad) N c, .int .i64 auto], L4.boxR (w.heap.size + 1) 45 #[.bool rl, .bool rh, .int .i64 lk, .int .i64 ln, .string lt, .int .i64 gk, .int .i64 gn, .string gt], L4.boxR (w.heap.size + 1 + 1) 26 #[.string ⟨#[]⟩, .slice none 0 0, .int .i64 0], L4.boxR g1 26 #[.string name, .slice A m C, .int .i64 auto], Sv.ownV 40 4 A C m (cellsI ys), Bag.bag (rowsI ys), Bag.bag ([(LI.mk ⟨kd, n, t⟩ a1 c1 l).row])] from Bag.push_bag S9.out hb ho)
          clear S9
          clear hb ho
          go_wp2_with fail
          clear hL
          refine hK.out _ _ ⟨Bag.cell_at S10.out 0 rfl 0 rfl, Bag.cell_at S10.out 0 rfl 1 rfl, Bag.cell_at S10.out 0 rfl 2 rfl, (HK.out _ S10.out.old).1, (HK.out _ S10.out.old).2.1, (HK.out _ S10.out.old).2.2.1, (HK.out _ S10.out.old).2.2.2⟩ ⟨Bag.cell_at S10.out 3 rfl 0 rfl, Bag.cell_at S10.out 3 rfl 1 rfl, Bag.cell_at S10.out 3 rfl 2 rfl⟩ (fun hS hL => ?_)
          clear hK K
          try simp only [zp0, zp1, zp2, zp3, zp4]
          refine Reg.only_op (i := 8) rfl (by kernel_rfl) (fun K hK => ?_)
          go_simp
          have S11 := Lib.hid (show Sl.Sep w _ [L4.boxR w.heap.size 26 #[.string name, .slice (some ad) N c, .int .i64 auto], L4.boxR (w.heap.size + 1) 45 #[.bool rl, .bool rh, .int .i64 lk, .int .i64 ln, .string lt, .int .i64 gk, .int .i64 gn, .string gt], L4.boxR (w.heap.size + 1 + 1) 26 #[.string ⟨#[]⟩, .slice none 0 0, .int .i64 0], L4.boxR g1 26 #[.string name, .slice A m C, .int .i64 auto], Sv.ownV 40 4 A C m (cellsI ys), Bag.bag (rowsI ys), Bag.bag ([(LI.mk ⟨kd, n, t⟩ a1 c1 l).row]), Sv.ownV 40 4 (some ⟨w6.heap.size, 0, none⟩) 1 1 (cellsI [⟨⟨kd, n, t⟩, a1, c1, l⟩])] from Sv.push_own S10.out ((Below.refl _ _).alloc (Nat.le_refl _) _) (OwnV.madeAt w6 40 4 1 w6.heap.size #[.int .i64 kd, .int .i64 n, .string t, .slice a1 l.length c1] rfl (Nat.le_refl _) rfl (by decide)))
          clear S10
          obtain ⟨g2, hg⟩ : ∃ g', g' = w6.heap.size := ⟨_, rfl⟩
          rw [← hg] at S11 ⊢
          clear hg
          generalize w6.alloc (.cells #[.int .i64 kd, .int .i64 n, .string t, .slice a1 l.length c1] 40) = w7 at S11 ⊢
          clear hL
          refine hK.out _ _ ⟨Bag.cell_at S11.out 0 rfl 0 rfl, Bag.cell_at S11.out 0 rfl 1 rfl, Bag.cell_at S11.out 0 rfl 2 rfl, (HK.out _ S11.out.old).1, (HK.out _ S11.out.old).2.1, (HK.out _ S11.out.old).2.2.1, (HK.out _ S11.out.old).2.2.2⟩ ⟨Bag.cell_at S11.out 3 rfl 0 rfl, Bag.cell_at S11.out 3 rfl 1 rfl, Bag.cell_at S11.out 3 rfl 2 rfl⟩ (fun hS hL => ?_)
          clear hK K
          try simp only [zp0, zp1, zp2, zp3, zp4]
          refine Reg.only_op (i := 9) rfl (by kernel_rfl) (fun K hK => ?_)
          refine Sv.step_append_s S11.out 4 rfl rfl _ _ 24 (by rfl) i0 (.agg #[.int .i64 0, .int .i64 0, .string ⟨#[]⟩, .slice none 0 0]) 56 Try.underlying24 HI.out.1 HI.out.2.1 HI.out.2.2.1 HI.out.2.2.2 rfl (by omega) _ (by rfl) rfl _ _ 1 _ _ (cellsI [⟨⟨kd, n, t⟩, a1, c1, l⟩]) (by rfl) rfl ((Sv.own_at S11.out 7 rfl).reads) rfl (cellsI_one _) (by unfold maxLen; omega) (by omega) ?_
          intro a3' c3' w8 hA
          have S12 := Lib.hid (show Sl.Sep w _ [L4.boxR w.heap.size 26 #[.string name, .slice (some ad) N c, .int .i64 auto], L4.boxR (w.heap.size + 1) 45 #[.bool rl, .bool rh, .int .i64 lk, .int .i64 ln, .string lt, .int .i64 gk, .int .i64 gn, .string gt], L4.boxR (w.heap.size + 1 + 1) 26 #[.string ⟨#[]⟩, .slice none 0 0, .int .i64 0], L4.boxR g1 26 #[.string name, .slice A m C, .int .i64 auto], Sv.ownV 40 4 a3' c3' (m + 1) (cellsI ys ++ (cellsI [⟨⟨kd, n, t⟩, a1, c1, l⟩])), Bag.bag (rowsI ys), Bag.bag ([(LI.mk ⟨kd, n, t⟩ a1 c1 l).row]), Sv.ownV 40 4 (some ⟨g2, 0, none⟩) 1 1 (cellsI [⟨⟨kd, n, t⟩, a1, c1, l⟩])] from hA)
          clear S11
          clear hA
          clear hL
          refine hK.out _ _ ⟨Bag.cell_at S12.out 0 rfl 0 rfl, Bag.cell_at S12.out 0 rfl 1 rfl, Bag.cell_at S12.out 0 rfl 2 rfl, (HK.out _ S12.out.old).1, (HK.out _ S12.out.old).2.1, (HK.out _ S12.out.old).2.2.1, (HK.out _ S12.out.old).2.2.2⟩ ⟨Bag.cell_at S12.out 3 rfl 0 rfl, Bag.cell_at S12.out 3 rfl 1 rfl, Bag.cell_at S12.out 3 rfl 2 rfl⟩ (fun hS hL => ?_)
          clear hK K
          try simp only [zp0, zp1, zp2, zp3, zp4]
          refine Reg.early_op (i := 10) (v := ?_) rfl (by kernel_rfl) (by kernel_rfl) (by kernel_rfl) rfl (by kernel_rfl) (by kernel_rfl) (fun _ _ _ h => h) (by rfl) ?_ hS hL ?_
          rotate_left
          · (intro w hSw hSv; (try dsimp only at hSw); (try dsimp only at hSv); go_simp; try with_reducible rfl)
          try simp only [zp0, zp1, zp2, zp3, zp4]
          refine Reg.late_op (i := 11) rfl (by kernel_rfl) rfl (fun K hK => ?_)
          have f0 : World.cell? _ ⟨g1, 0, none⟩ = some (.string name) := Bag.cell_at S12.out 3 rfl 0 rfl
          have f1 : World.cell? _ ⟨g1, 1, none⟩ = some (.slice A m C) := Bag.cell_at S12.out 3 rfl 1 rfl
          have f2 : World.cell? _ ⟨g1, 2, none⟩ = some (.int .i64 auto) := Bag.cell_at S12.out 3 rfl 2 rfl
          have z0 := Bag.free_at S12.out 3 rfl 0
          have z1 := Bag.free_at S12.out 3 rfl 1
          have z2 := Bag.free_at S12.out 3 rfl 2
          go_simp
          clear f0 f1 f2 z0 z1 z2
          have S13 := Lib.hid (show Sl.Sep w _ [L4.boxR w.heap.size 26 #[.string name, .slice (some ad) N c, .int .i64 auto], L4.boxR (w.heap.size + 1) 45 #[.bool rl, .bool rh, .int .i64 lk, .int .i64 ln, .string lt, .int .i64 gk, .int .i64 gn, .string gt], L4.boxR (w.heap.size + 1 + 1) 26 #[.string ⟨#[]⟩, .slice none 0 0, .int .i64 0], L4.boxR g1 26 #[.string name, .slice a3' (m + 1) c3', .int .i64 auto], Sv.ownV 40 4 a3' c3' (m + 1) (cellsI ys ++ (cellsI [⟨⟨kd, n, t⟩, a1, c1, l⟩])), Bag.bag (rowsI ys), Bag.bag ([(LI.mk ⟨kd, n, t⟩ a1 c1 l).row]), Sv.ownV 40 4 (some ⟨g2, 0, none⟩) 1 1 (cellsI [⟨⟨kd, n, t⟩, a1, c1, l⟩])] from L5.put_box5 (S12.out) 3 rfl 1 (.slice a3' (m + 1) c3'))
          clear S12
          refine hK.out _ _ ⟨Bag.cell_at S13.out 0 rfl 0 rfl, Bag.cell_at S13.out 0 rfl 1 rfl, Bag.cell_at S13.out 0 rfl 2 rfl, (HK.out _ S13.out.old).1, (HK.out _ S13.out.old).2.1, (HK.out _ S13.out.old).2.2.1, (HK.out _ S13.out.old).2.2.2⟩ (fun hS => ?_)
          clear hL
          clear hK K
          try simp only [zp0, zp1, zp2, zp3, zp4]
          refine Reg.anyL_done (by kernel_rfl) ?_ _
          have f0 : World.cell? _ ⟨w.heap.size, 0, none⟩ = some (.string name) := Bag.cell_at S13.out 0 rfl 0 rfl
          have f1 : World.cell? _ ⟨w.heap.size, 1, none⟩ = some (.slice (some ad) N c) := Bag.cell_at S13.out 0 rfl 1 rfl
          have f2 : World.cell? _ ⟨w.heap.size, 2, none⟩ = some (.int .i64 auto) := Bag.cell_at S13.out 0 rfl 2 rfl
          have f3 : World.cell? _ ⟨w.heap.size + 1, 0, none⟩ = some (.bool rl) := Bag.cell_at S13.out 1 rfl 0 rfl
          have f4 : World.cell? _ ⟨w.heap.size + 1, 1, none⟩ = some (.bool rh) := Bag.cell_at S13.out 1 rfl 1 rfl
          have f5 : World.cell? _ ⟨w.heap.size + 1, 2, none⟩ = some (.int .i64 lk) := Bag.cell_at S13.out 1 rfl 2 rfl
          have f6 : World.cell? _ ⟨w.heap.size + 1, 3, none⟩ = some (.int .i64 ln) := Bag.cell_at S13.out 1 rfl 3 rfl
          have f7 : World.cell? _ ⟨w.heap.size + 1, 4, none⟩ = some (.string lt) := Bag.cell_at S13.out 1 rfl 4 rfl
          have f8 : World.cell? _ ⟨w.heap.size + 1, 5, none⟩ = some (.int .i64 gk) := Bag.cell_at S13.out 1 rfl 5 rfl
          have f9 : World.cell? _ ⟨w.heap.size + 1, 6, none⟩ = some (.int .i64 gn) := Bag.cell_at S13.out 1 rfl 6 rfl
          have f10 : World.cell? _ ⟨w.heap.size + 1, 7, none⟩ = some (.string gt) := Bag.cell_at S13.out 1 rfl 7 rfl
          have f11 : World.cell? _ ⟨w.heap.size + 1 + 1, 0, none⟩ = some (.string ⟨#[]⟩) := Bag.cell_at S13.out 2 rfl 0 rfl
          have f12 : World.cell? _ ⟨w.heap.size + 1 + 1, 1, none⟩ = some (.slice none 0 0) := Bag.cell_at S13.out 2 rfl 1 rfl
          have f13 : World.cell? _ ⟨w.heap.size + 1 + 1, 2, none⟩ = some (.int .i64 0) := Bag.cell_at S13.out 2 rfl 2 rfl
          have f14 : World.cell? _ ⟨g1, 0, none⟩ = some (.string name) := Bag.cell_at S13.out 3 rfl 0 rfl
          have f15 : World.cell? _ ⟨g1, 1, none⟩ = some (.slice a3' (m + 1) c3') := Bag.cell_at S13.out 3 rfl 1 rfl
          have f16 : World.cell? _ ⟨g1, 2, none⟩ = some (.int .i64 auto) := Bag.cell_at S13.out 3 rfl 2 rfl
          have f17 : World.cell? _ (ad.add (k * 4)) = some (.int .i64 kd) := (HK.out _ S13.out.old).1
          have f18 : World.cell? _ (⟨(ad.add (k * 4)).block, (ad.add (k * 4)).off + 1, none⟩) = some (.int .i64 n) := (HK.out _ S13.out.old).2.1
          have f19 : World.cell? _ (⟨(ad.add (k * 4)).block, (ad.add (k * 4)).off + 2, none⟩) = some (.string t) := (HK.out _ S13.out.old).2.2.1
          have f20 : World.cell? _ (⟨(ad.add (k * 4)).block, (ad.add (k * 4)).off + 3, none⟩) = some (.slice ia l.length ic) := (HK.out _ S13.out.old).2.2.2
          clear f0 f1 f2 f3 f4 f5 f6 f7 f8 f9 f10 f11 f12 f13 f14 f15 f16 f17 f18 f19 f20
          have S14 := Lib.hid (show Sl.Sep w _ [L4.boxR w.heap.size 26 #[.string name, .slice (some ad) N c, .int .i64 auto], L4.boxR (w.heap.size + 1) 45 #[.bool rl, .bool rh, .int .i64 lk, .int .i64 ln, .string lt, .int .i64 gk, .int .i64 gn, .string gt], L4.boxR (w.heap.size + 1 + 1) 26 #[.string ⟨#[]⟩, .slice none 0 0, .int .i64 0], L4.boxR g1 26 #[.string name, .slice a3' (m + 1) c3', .int .i64 auto], Sv.ownV 40 4 a3' c3' (m + 1) (cellsI ys ++ (cellsI [⟨⟨kd, n, t⟩, a1, c1, l⟩])), Bag.bag (rowsI ys ++ ([(LI.mk ⟨kd, n, t⟩ a1 c1 l).row])), Bag.bag ([]), Sv.ownV 40 4 (some ⟨g2, 0, none⟩) 1 1 (cellsI [⟨⟨kd, n, t⟩, a1, c1, l⟩])] from Bag.bag_join S13.out 5 6 (by decide) rfl rfl)
          clear S13
          have S15 := Lib.hid (show Sl.Sep w _ [L4.boxR w.heap.size 26 #[.string name, .slice (some ad) N c, .int .i64 auto], L4.boxR (w.heap.size + 1) 45 #[.bool rl, .bool rh, .int .i64 lk, .int .i64 ln, .string lt, .int .i64 gk, .int .i64 gn, .string gt], L4.boxR (w.heap.size + 1 + 1) 26 #[.string ⟨#[]⟩, .slice none 0 0, .int .i64 0], L4.boxR g1 26 #[.string name, .slice a3' (m + 1) c3', .int .i64 auto], Sv.ownV 40 4 a3' c3' (m + 1) (cellsI ys ++ (cellsI [⟨⟨kd, n, t⟩, a1, c1, l⟩])), Bag.bag (rowsI ys ++ ([(LI.mk ⟨kd, n, t⟩ a1 c1 l).row]))] from Bag.take S14.out [0, 1, 2, 3, 4, 5] (by rfl) (by decide))
          clear S14
          have f0 : World.cell? _ ⟨w.heap.size, 0, none⟩ = some (.string name) := Bag.cell_at S15.out 0 rfl 0 rfl
          have f1 : World.cell? _ ⟨w.heap.size, 1, none⟩ = some (.slice (some ad) N c) := Bag.cell_at S15.out 0 rfl 1 rfl
          have f2 : World.cell? _ ⟨w.heap.size, 2, none⟩ = some (.int .i64 auto) := Bag.cell_at S15.out 0 rfl 2 rfl
          have f3 : World.cell? _ ⟨w.heap.size + 1, 0, none⟩ = some (.bool rl) := Bag.cell_at S15.out 1 rfl 0 rfl
          have f4 : World.cell? _ ⟨w.heap.size + 1, 1, none⟩ = some (.bool rh) := Bag.cell_at S15.out 1 rfl 1 rfl
          have f5 : World.cell? _ ⟨w.heap.size + 1, 2, none⟩ = some (.int .i64 lk) := Bag.cell_at S15.out 1 rfl 2 rfl
          have f6 : World.cell? _ ⟨w.heap.size + 1, 3, none⟩ = some (.int .i64 ln) := Bag.cell_at S15.out 1 rfl 3 rfl
          have f7 : World.cell? _ ⟨w.heap.size + 1, 4, none⟩ = some (.string lt) := Bag.cell_at S15.out 1 rfl 4 rfl
          have f8 : World.cell? _ ⟨w.heap.size + 1, 5, none⟩ = some (.int .i64 gk) := Bag.cell_at S15.out 1 rfl 5 rfl
          have f9 : World.cell? _ ⟨w.heap.size + 1, 6, none⟩ = some (.int .i64 gn) := Bag.cell_at S15.out 1 rfl 6 rfl
          have f10 : World.cell? _ ⟨w.heap.size + 1, 7, none⟩ = some (.string gt) := Bag.cell_at S15.out 1 rfl 7 rfl
          have f11 : World.cell? _ ⟨w.heap.size + 1 + 1, 0, none⟩ = some (.string ⟨#[]⟩) := Bag.cell_at S15.out 2 rfl 0 rfl
          have f12 : World.cell? _ ⟨w.heap.size + 1 + 1, 1, none⟩ = some (.slice none 0 0) := Bag.cell_at S15.out 2 rfl 1 rfl
          have f13 : World.cell? _ ⟨w.heap.size + 1 + 1, 2, none⟩ = some (.int .i64 0) := Bag.cell_at S15.out 2 rfl 2 rfl
          have f14 : World.cell? _ ⟨g1, 0, none⟩ = some (.string name) := Bag.cell_at S15.out 3 rfl 0 rfl
          have f15 : World.cell? _ ⟨g1, 1, none⟩ = some (.slice a3' (m + 1) c3') := Bag.cell_at S15.out 3 rfl 1 rfl
          have f16 : World.cell? _ ⟨g1, 2, none⟩ = some (.int .i64 auto) := Bag.cell_at S15.out 3 rfl 2 rfl
          have f17 : World.cell? _ (ad.add (k * 4)) = some (.int .i64 kd) := (HK.out _ S15.out.old).1
          have f18 : World.cell? _ (⟨(ad.add (k * 4)).block, (ad.add (k * 4)).off + 1, none⟩) = some (.int .i64 n) := (HK.out _ S15.out.old).2.1
          have f19 : World.cell? _ (⟨(ad.add (k * 4)).block, (ad.add (k * 4)).off + 2, none⟩) = some (.string t) := (HK.out _ S15.out.old).2.2.1
          have f20 : World.cell? _ (⟨(ad.add (k * 4)).block, (ad.add (k * 4)).off + 3, none⟩) = some (.slice ia l.length ic) := (HK.out _ S15.out.old).2.2.2
          go_wp2_with fail
          go_roundw
          case rel =>
            refine ⟨k + 1, m + 1, a3', c3', ys ++ [⟨⟨kd, n, t⟩, a1, c1, l⟩], by omega, by go_num, by omega, And.intro ⟨?_, ?_⟩ ?_⟩
            · rw [List.length_append, ← HC.out.1]; rfl
            · rw [HT.out, HB.out, conI_snoc, HC.out.2]; rfl
            · rw [cellsI_append, rowsI_append]; exact S15.out
          case measure => simp [intOf]; omega
      · skip
        have f0 : World.cell? _ ⟨w.heap.size, 0, none⟩ = some (.string name) := Bag.cell_at S6.out 0 rfl 0 rfl
        have f1 : World.cell? _ ⟨w.heap.size, 1, none⟩ = some (.slice a N c) := Bag.cell_at S6.out 0 rfl 1 rfl
        have f2 : World.cell? _ ⟨w.heap.size, 2, none⟩ = some (.int .i64 auto) := Bag.cell_at S6.out 0 rfl 2 rfl
        have f3 : World.cell? _ ⟨w.heap.size + 1, 0, none⟩ = some (.bool rl) := Bag.cell_at S6.out 1 rfl 0 rfl
        have f4 : World.cell? _ ⟨w.heap.size + 1, 1, none⟩ = some (.bool rh) := Bag.cell_at S6.out 1 rfl 1 rfl
        have f5 : World.cell? _ ⟨w.heap.size + 1, 2, none⟩ = some (.int .i64 lk) := Bag.cell_at S6.out 1 rfl 2 rfl
        have f6 : World.cell? _ ⟨w.heap.size + 1, 3, none⟩ = some (.int .i64 ln) := Bag.cell_at S6.out 1 rfl 3 rfl
        have f7 : World.cell? _ ⟨w.heap.size + 1, 4, none⟩ = some (.string lt) := Bag.cell_at S6.out 1 rfl 4 rfl
        have f8 : World.cell? _ ⟨w.heap.size + 1, 5, none⟩ = some (.int .i64 gk) := Bag.cell_at S6.out 1 rfl 5 rfl
        have f9 : World.cell? _ ⟨w.heap.size + 1, 6, none⟩ = some (.int .i64 gn) := Bag.cell_at S6.out 1 rfl 6 rfl
        have f10 : World.cell? _ ⟨w.heap.size + 1, 7, none⟩ = some (.string gt) := Bag.cell_at S6.out 1 rfl 7 rfl
        have f11 : World.cell? _ ⟨w.heap.size + 1 + 1, 0, none⟩ = some (.string ⟨#[]⟩) := Bag.cell_at S6.out 2 rfl 0 rfl
        have f12 : World.cell? _ ⟨w.heap.size + 1 + 1, 1, none⟩ = some (.slice none 0 0) := Bag.cell_at S6.out 2 rfl 1 rfl
        have f13 : World.cell? _ ⟨w.heap.size + 1 + 1, 2, none⟩ = some (.int .i64 0) := Bag.cell_at S6.out 2 rfl 2 rfl
        have f14 : World.cell? _ ⟨g1, 0, none⟩ = some (.string name) := Bag.cell_at S6.out 3 rfl 0 rfl
        have f15 : World.cell? _ ⟨g1, 1, none⟩ = some (.slice A m C) := Bag.cell_at S6.out 3 rfl 1 rfl
        have f16 : World.cell? _ ⟨g1, 2, none⟩ = some (.int .i64 auto) := Bag.cell_at S6.out 3 rfl 2 rfl
        have hw1 : IntKind.i64.wrap ((N : Int) - (m : Int)) = (N : Int) - (m : Int) := IntWalk.i64_in _ ⟨by omega, by omega⟩
        go_upto_region 9 with fail
        clear f0 f1 f2 f3 f4 f5 f6 f7 f8 f9 f10 f11 f12 f13 f14 f15 f16
        refine wp_region_held_drew (S := (fun w' => World.cell? w' ⟨w.heap.size, 0, none⟩ = some (.string name) ∧ World.cell? w' ⟨w.heap.size, 1, none⟩ = some (.slice a N c) ∧ World.cell? w' ⟨w.heap.size, 2, none⟩ = some (.int .i64 auto) ∧ World.cell? w' ⟨g1, 0, none⟩ = some (.string name) ∧ World.cell? w' ⟨g1, 1, none⟩ = some (.slice A m C) ∧ World.cell? w' ⟨g1, 2, none⟩ = some (.int .i64 auto))) (by kernel_rfl) ⟨Bag.cell_at S6.out 0 rfl 0 rfl, Bag.cell_at S6.out 0 rfl 1 rfl, Bag.cell_at S6.out 0 rfl 2 rfl, Bag.cell_at S6.out 3 rfl 0 rfl, Bag.cell_at S6.out 3 rfl 1 rfl, Bag.cell_at S6.out 3 rfl 2 rfl⟩ (fun hS => ?_)
        have S7 := Lib.hid (show Sl.Sep w _ [L4.boxR w.heap.size 26 #[.string name, .slice a N c, .int .i64 auto], L4.boxR (w.heap.size + 1) 45 #[.bool rl, .bool rh, .int .i64 lk, .int .i64 ln, .string lt, .int .i64 gk, .int .i64 gn, .string gt], L4.boxR (w.heap.size + 1 + 1) 26 #[.string ⟨#[]⟩, .slice none 0 0, .int .i64 0], L4.boxR g1 26 #[.string name, .slice A m C, .int .i64 auto], Sv.ownV 40 4 A C m (cellsI ys), Bag.bag (rowsI ys)] from Bag.drew1 S6.out)
        clear S6
        generalize World.drew _ = w3 at hS S7 ⊢
        refine tk 0 rfl ?_
        try simp only [zp0, zp1, zp2, zp3, zp4]
        refine tk 1 rfl ?_
        try simp only [zp0, zp1, zp2, zp3, zp4]
        refine tk 2 rfl ?_
        try simp only [zp0, zp1, zp2, zp3, zp4]
        refine tk 3 rfl ?_
        try simp only [zp0, zp1, zp2, zp3, zp4]
        refine tk 4 rfl ?_
        try simp only [zp0, zp1, zp2, zp3, zp4]
        refine tk 5 rfl ?_
        try simp only [zp0, zp1, zp2, zp3, zp4]
        refine tk 6 rfl ?_
        try simp only [zp0, zp1, zp2, zp3, zp4]
        refine tk 7 rfl ?_
        try simp only [zp0, zp1, zp2, zp3, zp4]
        refine Reg.one_op (i := 8) rfl (by kernel_rfl) (fun K hK => ?_)
        have f0 : World.cell? _ ⟨w.heap.size + 1 + 1, 0, none⟩ = some (.string ⟨#[]⟩) := Bag.cell_at S7.out 2 rfl 0 rfl
        have f1 : World.cell? _ ⟨w.heap.size + 1 + 1, 1, none⟩ = some (.slice none 0 0) := Bag.cell_at S7.out 2 rfl 1 rfl
        have f2 : World.cell? _ ⟨w.heap.size + 1 + 1, 2, none⟩ = some (.int .i64 0) := Bag.cell_at S7.out 2 rfl 2 rfl
        have z0 := Bag.free_at S7.out 2 rfl 0
        have z1 := Bag.free_at S7.out 2 rfl 1
        have z2 := Bag.free_at S7.out 2 rfl 2
        go_simp
        clear f0 f1 f2 z0 z1 z2
        have S8 := Lib.hid (show Sl.Sep w _ [L4.boxR w.heap.size 26 #[.string name, .slice a N c, .int .i64 auto], L4.boxR (w.heap.size + 1) 45 #[.bool rl, .bool rh, .int .i64 lk, .int .i64 ln, .string lt, .int .i64 gk, .int .i64 gn, .string gt], L4.boxR (w.heap.size + 1 + 1) 26 #[.string name, .slice A m C, .int .i64 auto], L4.boxR g1 26 #[.string name, .slice A m C, .int .i64 auto], Sv.ownV 40 4 A C m (cellsI ys), Bag.bag (rowsI ys)] from L5.put_box5 (L5.put_box5 (L5.put_box5 (S7.out) 2 rfl 0 (.string name)) 2 rfl 1 (.slice A m C)) 2 rfl 2 (.int .i64 auto))
        clear S7
        refine hK.out _ _ ⟨Bag.cell_at S8.out 0 rfl 0 rfl, Bag.cell_at S8.out 0 rfl 1 rfl, Bag.cell_at S8.out 0 rfl 2 rfl, Bag.cell_at S8.out 3 rfl 0 rfl, Bag.cell_at S8.out 3 rfl 1 rfl, Bag.cell_at S8.out 3 rfl 2 rfl⟩ (fun hS => ?_)
        clear hK K
        try simp only [zp0, zp1, zp2, zp3, zp4]
        refine tk 9 rfl ?_
        try simp only [zp0, zp1, zp2, zp3, zp4]
        refine wpAnyH_done (by kernel_rfl) ?_ _
        have f0 : World.cell? _ ⟨w.heap.size, 0, none⟩ = some (.string name) := Bag.cell_at S8.out 0 rfl 0 rfl
        have f1 : World.cell? _ ⟨w.heap.size, 1, none⟩ = some (.slice a N c) := Bag.cell_at S8.out 0 rfl 1 rfl
        have f2 : World.cell? _ ⟨w.heap.size, 2, none⟩ = some (.int .i64 auto) := Bag.cell_at S8.out 0 rfl 2 rfl
        have f3 : World.cell? _ ⟨w.heap.size + 1, 0, none⟩ = some (.bool rl) := Bag.cell_at S8.out 1 rfl 0 rfl
        have f4 : World.cell? _ ⟨w.heap.size + 1, 1, none⟩ = some (.bool rh) := Bag.cell_at S8.out 1 rfl 1 rfl
        have f5 : World.cell? _ ⟨w.heap.size + 1, 2, none⟩ = some (.int .i64 lk) := Bag.cell_at S8.out 1 rfl 2 rfl
        have f6 : World.cell? _ ⟨w.heap.size + 1, 3, none⟩ = some (.int .i64 ln) := Bag.cell_at S8.out 1 rfl 3 rfl
        have f7 : World.cell? _ ⟨w.heap.size + 1, 4, none⟩ = some (.string lt) := Bag.cell_at S8.out 1 rfl 4 rfl
        have f8 : World.cell? _ ⟨w.heap.size + 1, 5, none⟩ = some (.int .i64 gk) := Bag.cell_at S8.out 1 rfl 5 rfl
        have f9 : World.cell? _ ⟨w.heap.size + 1, 6, none⟩ = some (.int .i64 gn) := Bag.cell_at S8.out 1 rfl 6 rfl
        have f10 : World.cell? _ ⟨w.heap.size + 1, 7, none⟩ = some (.string gt) := Bag.cell_at S8.out 1 rfl 7 rfl
        have f11 : World.cell? _ ⟨w.heap.size + 1 + 1, 0, none⟩ = some (.string name) := Bag.cell_at S8.out 2 rfl 0 rfl
        have f12 : World.cell? _ ⟨w.heap.size + 1 + 1, 1, none⟩ = some (.slice A m C) := Bag.cell_at S8.out 2 rfl 1 rfl
        have f13 : World.cell? _ ⟨w.heap.size + 1 + 1, 2, none⟩ = some (.int .i64 auto) := Bag.cell_at S8.out 2 rfl 2 rfl
        have f14 : World.cell? _ ⟨g1, 0, none⟩ = some (.string name) := Bag.cell_at S8.out 3 rfl 0 rfl
        have f15 : World.cell? _ ⟨g1, 1, none⟩ = some (.slice A m C) := Bag.cell_at S8.out 3 rfl 1 rfl
        have f16 : World.cell? _ ⟨g1, 2, none⟩ = some (.int .i64 auto) := Bag.cell_at S8.out 3 rfl 2 rfl
        go_wp2_with fail
        refine bodyPost_ret (v := .tuple #[.agg #[.string name, .slice A m C, .int .i64 auto], .int .i64 ((N : Int) - (m : Int))]) (by simp [results, Try.results48, go_sem, *]) rfl ?_
        have hkN : k = N := by omega
        obtain ⟨hm, hc⟩ := HC.out
        rw [List.take_of_length_le (show (conI xs).length ≤ k by have := HN.out; simp; omega)] at hc
        have hl9 : (outI (conI xs) ⟨rl, rh, ⟨lk, ln, lt⟩, ⟨gk, gn, gt⟩⟩).length = m := by rw [← hc, conI_length, hm]
        have S90 := Lib.hid (Bag.bag_of_one S8.out 4 (r := rowI A C ys) (by rw [hm]; rfl))
        have S91 := Lib.hid (Bag.bag_join S90.out 4 5 (by decide) rfl rfl)
        exact ⟨⟨name, A, C, ys, auto⟩, by rw [HD.out.2, hl9, hm]; rfl, by rw [HD.out.1]; unfold LS.con; rw [hc]; rfl, Bag.bag_from S91.out 4 rfl, S91.out.old⟩
end Go.Proofs.Ytkfejjoehgipmaa.L6
