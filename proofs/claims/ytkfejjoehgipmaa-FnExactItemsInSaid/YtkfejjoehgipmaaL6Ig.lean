/-
  The contracts of chapter 6's ItemsIn and SizeStore of the program. Conditions: keys' texts of at most 2^40 bytes, at most 2^20 fields and items. (Written by my program gen_l6m.py.)
-/
import Derived.Test.YtkfejjoehgipmaaTk
import Derived.Test.YtkfejjoehgipmaaL6Ia
import Derived.Test.YtkfejjoehgipmaaL6Sb
import Derived.Test.YtkfejjoehgipmaaL5Rd
import Derived.Test.YtkfejjoehgipmaaL6Sx
import Derived.Test.YtkfejjoehgipmaaL4Im6
import Derived.Test.YtkfejjoehgipmaaL5If
namespace Go.Proofs.Ytkfejjoehgipmaa.L6
set_option maxRecDepth 100000
open L4 (K isK cmpK R inR encU)
open L5 (F isR isN cellsF encR eqR Small)
open Go.ChangeShapes Go.WideShapes Go.ChangeAt Go.RowKit Mem Sl Ex L2 Sv Bag
set_option linter.unusedVariables false
set_option linter.unusedSimpArgs false

set_option maxHeartbeats 8000000 in
theorem itemsIn_any (y : LS) (r : R) (hf : FitS y.con) (hr1 : r.lo.text.size ≤ 281474976710656) (hr2 : r.hi.text.size ≤ 281474976710656) (w : World) (hr : RowsRd w w.heap.size y.rows) :
    Calls Try.prog 27 #[y.v, r.v] w (GaveIs w (inI y.con.items r)) := by
  obtain ⟨i0, hi1, hi2, hi3, hi4⟩ := itemInfo
  have HI := Lib.hid (And.intro hi1 (And.intro hi2 (And.intro hi3 hi4)))
  clear hi1 hi2 hi3 hi4
  obtain ⟨rl, rh, ⟨lk, ln, lt⟩, ⟨gk, gn, gt⟩⟩ := r
  unfold L4.R.v
  dsimp only at *
  obtain ⟨name, a, c, xs, auto⟩ := y
  have HR := Lib.hid (fun w' (h : Below w.heap.size w w') => LS.outer (hr.below h))
  have HX := Lib.hid (fun w' (h : Below w.heap.size w w') => (LS.inner (hr.below h)).more h.size)
  have HF := Lib.hid hf.items
  have HNM := Lib.hid hf.name
  have hl := hf.len
  simp only [LS.con, conI_length] at hl
  dsimp only [LS.con] at HR HX HF HNM
  try unfold LS.v LS.cells LS.con
  try dsimp only
  obtain ⟨N, hN⟩ : ∃ n, n = xs.length := ⟨_, rfl⟩
  rw [← hN] at hl ⊢
  have hl' : (N : Int) ≤ 1048576 := by omega
  have HN := Lib.hid hN
  clear hN hr hf
  have S1 := Lib.hid (show Sl.Sep w ((w.alloc (.cells #[.string name, .slice a N c, .int .i64 auto] 26)).alloc (.cells #[.bool rl, .bool rh, .int .i64 lk, .int .i64 ln, .string lt, .int .i64 gk, .int .i64 gn, .string gt] 45)) [L4.boxR w.heap.size 26 #[.string name, .slice a N c, .int .i64 auto], L4.boxR (w.heap.size + 1) 45 #[.bool rl, .bool rh, .int .i64 lk, .int .i64 ln, .string lt, .int .i64 gk, .int .i64 gn, .string gt]] from L4.push_box (L4.push_box (Sl.Sep.start w) 26 #[.string name, .slice a N c, .int .i64 auto] (w.heap.size) (by simp)) 45 #[.bool rl, .bool rh, .int .i64 lk, .int .i64 ln, .string lt, .int .i64 gk, .int .i64 gn, .string gt] (w.heap.size + 1) (by simp))
  obtain ⟨wa, hwa⟩ : ∃ u, u = ((w.alloc (.cells #[.string name, .slice a N c, .int .i64 auto] 26)).alloc (.cells #[.bool rl, .bool rh, .int .i64 lk, .int .i64 ln, .string lt, .int .i64 gk, .int .i64 gn, .string gt] 45)) := ⟨_, rfl⟩
  rw [← hwa] at S1
  go_enter Try.func27, Try.ntmps27
  go_upto_region 1 with fail
  rw [← hwa]
  clear hwa
  go_upto_region 2 with fail
  have S2 := Lib.hid (show Sl.Sep w _ [L4.boxR w.heap.size 26 #[.string name, .slice a N c, .int .i64 auto], L4.boxR (w.heap.size + 1) 45 #[.bool rl, .bool rh, .int .i64 lk, .int .i64 ln, .string lt, .int .i64 gk, .int .i64 gn, .string gt], Sv.ownV 40 4 (some ⟨wa.heap.size, 0, none⟩) 0 0 (cellsI [])] from Sv.push_own S1.out ((Below.refl _ _).alloc (Nat.le_refl _) _) (OwnV.madeAt wa 40 4 0 wa.heap.size #[] rfl (Nat.le_refl _) rfl (by decide)))
  clear S1
  obtain ⟨g1, hg⟩ : ∃ g', g' = wa.heap.size := ⟨_, rfl⟩
  rw [← hg] at S2 ⊢
  clear hg
  generalize wa.alloc (.cells #[] 40) = w1 at S2 ⊢
  have S3 := Lib.hid (show Sl.Sep w _ [L4.boxR w.heap.size 26 #[.string name, .slice a N c, .int .i64 auto], L4.boxR (w.heap.size + 1) 45 #[.bool rl, .bool rh, .int .i64 lk, .int .i64 ln, .string lt, .int .i64 gk, .int .i64 gn, .string gt], Sv.ownV 40 4 (some ⟨g1, 0, none⟩) 0 0 (cellsI []), Bag.bag (rowsI [])] from Bag.push_bag S2.out (Below.refl _ _) (Bag.BagOwn.nil _ _))
  clear S2
  have f0 : World.cell? _ ⟨w.heap.size, 0, none⟩ = some (.string name) := Bag.cell_at S3.out 0 rfl 0 rfl
  have f1 : World.cell? _ ⟨w.heap.size, 1, none⟩ = some (.slice a N c) := Bag.cell_at S3.out 0 rfl 1 rfl
  have f2 : World.cell? _ ⟨w.heap.size, 2, none⟩ = some (.int .i64 auto) := Bag.cell_at S3.out 0 rfl 2 rfl
  have f3 : World.cell? _ ⟨w.heap.size + 1, 0, none⟩ = some (.bool rl) := Bag.cell_at S3.out 1 rfl 0 rfl
  have f4 : World.cell? _ ⟨w.heap.size + 1, 1, none⟩ = some (.bool rh) := Bag.cell_at S3.out 1 rfl 1 rfl
  have f5 : World.cell? _ ⟨w.heap.size + 1, 2, none⟩ = some (.int .i64 lk) := Bag.cell_at S3.out 1 rfl 2 rfl
  have f6 : World.cell? _ ⟨w.heap.size + 1, 3, none⟩ = some (.int .i64 ln) := Bag.cell_at S3.out 1 rfl 3 rfl
  have f7 : World.cell? _ ⟨w.heap.size + 1, 4, none⟩ = some (.string lt) := Bag.cell_at S3.out 1 rfl 4 rfl
  have f8 : World.cell? _ ⟨w.heap.size + 1, 5, none⟩ = some (.int .i64 gk) := Bag.cell_at S3.out 1 rfl 5 rfl
  have f9 : World.cell? _ ⟨w.heap.size + 1, 6, none⟩ = some (.int .i64 gn) := Bag.cell_at S3.out 1 rfl 6 rfl
  have f10 : World.cell? _ ⟨w.heap.size + 1, 7, none⟩ = some (.string gt) := Bag.cell_at S3.out 1 rfl 7 rfl
  go_wp2_with fail
  clear f0 f1 f2 f3 f4 f5 f6 f7 f8 f9 f10
  go_loopw [5, 12] (fun v i wr => ∃ (k m : Nat) (A : Option Addr) (C : Nat) (ys : List LI), k ≤ N ∧ i = .int .i64 k ∧ v = .slice A m C ∧ m ≤ k ∧ Hid ((m = ys.length ∧ conI ys = inI ((conI xs).take k) ⟨rl, rh, ⟨lk, ln, lt⟩, ⟨gk, gn, gt⟩⟩) ∧ Sl.Sep w wr [L4.boxR w.heap.size 26 #[.string name, .slice a N c, .int .i64 auto], L4.boxR (w.heap.size + 1) 45 #[.bool rl, .bool rh, .int .i64 lk, .int .i64 ln, .string lt, .int .i64 gk, .int .i64 gn, .string gt], Sv.ownV 40 4 A C m (cellsI ys), Bag.bag (rowsI ys)])) (fun _ i _ => N - (intOf i).toNat)
  case atStart => exact ⟨0, 0, _, _, [], Nat.zero_le _, rfl, rfl, Nat.le_refl _, And.intro ⟨rfl, rfl⟩ S3.out⟩
  case round =>
    obtain ⟨k, m, A, C, ys, hk, rfl, rfl, hmk, hrel⟩ := hrel
    have HC := Lib.hid hrel.out.1
    have S4 := Lib.hid hrel.out.2
    clear hrel S3
    by_cases hlt : (k : Int) < (N : Int)
    · skip
      have hkl : k < xs.length := by have := HN.out; omega
      obtain ⟨ad, x, rfl, hx⟩ := readsI_some (HR.out _ S4.out.old) k hkl
      obtain ⟨⟨kd, n, t⟩, ia, ic, l⟩ := x
      have HK := Lib.hid (fun w' (h : Below w.heap.size w w') => readsI_at (HR.out _ h) k _ hx)
      try dsimp only at HK
      have HFI := Lib.hid (fit_at HF.out hx)
      try dsimp only [LI.con] at HFI
      have HCI := Lib.hid (fun w' (h : Below w.heap.size w w') => copyItem_any kd n t ia ic l HFI.out.len w' (((HX.out _ h).at_ (rowsI_mem hx)).reads))
      try dsimp only at HCI
      obtain ⟨b, hb⟩ : ∃ b, inR ⟨kd, n, t⟩ ⟨rl, rh, ⟨lk, ln, lt⟩, ⟨gk, gn, gt⟩⟩ = b := ⟨_, rfl⟩
      have HIN := fun w => L4.implInRangeOf_any ⟨kd, n, t⟩ ⟨rl, rh, ⟨lk, ln, lt⟩, ⟨gk, gn, gt⟩⟩ (by have : t.size ≤ 1099511627776 := HFI.out.text; show t.size ≤ _; omega) hr1 hr2 w
      rw [hb] at HIN
      replace HIN := Lib.hid HIN
      have HB := Lib.hid hb
      clear hb
      have HT := Lib.hid (inI_take (r := ⟨rl, rh, ⟨lk, ln, lt⟩, ⟨gk, gn, gt⟩⟩) (show (conI xs)[k]? = some (⟨⟨kd, n, t⟩, l⟩ : It) from con_of hx))
      clear hx
      dsimp only at HT
      have f0 : World.cell? _ ⟨w.heap.size, 0, none⟩ = some (.string name) := Bag.cell_at S4.out 0 rfl 0 rfl
      have f1 : World.cell? _ ⟨w.heap.size, 1, none⟩ = some (.slice (some ad) N c) := Bag.cell_at S4.out 0 rfl 1 rfl
      have f2 : World.cell? _ ⟨w.heap.size, 2, none⟩ = some (.int .i64 auto) := Bag.cell_at S4.out 0 rfl 2 rfl
      have f3 : World.cell? _ ⟨w.heap.size + 1, 0, none⟩ = some (.bool rl) := Bag.cell_at S4.out 1 rfl 0 rfl
      have f4 : World.cell? _ ⟨w.heap.size + 1, 1, none⟩ = some (.bool rh) := Bag.cell_at S4.out 1 rfl 1 rfl
      have f5 : World.cell? _ ⟨w.heap.size + 1, 2, none⟩ = some (.int .i64 lk) := Bag.cell_at S4.out 1 rfl 2 rfl
      have f6 : World.cell? _ ⟨w.heap.size + 1, 3, none⟩ = some (.int .i64 ln) := Bag.cell_at S4.out 1 rfl 3 rfl
      have f7 : World.cell? _ ⟨w.heap.size + 1, 4, none⟩ = some (.string lt) := Bag.cell_at S4.out 1 rfl 4 rfl
      have f8 : World.cell? _ ⟨w.heap.size + 1, 5, none⟩ = some (.int .i64 gk) := Bag.cell_at S4.out 1 rfl 5 rfl
      have f9 : World.cell? _ ⟨w.heap.size + 1, 6, none⟩ = some (.int .i64 gn) := Bag.cell_at S4.out 1 rfl 6 rfl
      have f10 : World.cell? _ ⟨w.heap.size + 1, 7, none⟩ = some (.string gt) := Bag.cell_at S4.out 1 rfl 7 rfl
      have f11 : World.cell? _ (ad.add (k * 4)) = some (.int .i64 kd) := (HK.out _ S4.out.old).1
      have f12 : World.cell? _ (⟨(ad.add (k * 4)).block, (ad.add (k * 4)).off + 1, none⟩) = some (.int .i64 n) := (HK.out _ S4.out.old).2.1
      have f13 : World.cell? _ (⟨(ad.add (k * 4)).block, (ad.add (k * 4)).off + 2, none⟩) = some (.string t) := (HK.out _ S4.out.old).2.2.1
      have f14 : World.cell? _ (⟨(ad.add (k * 4)).block, (ad.add (k * 4)).off + 3, none⟩) = some (.slice ia l.length ic) := (HK.out _ S4.out.old).2.2.2
      go_upto_region 5 with fail
      clear f0 f1 f2 f3 f4 f5 f6 f7 f8 f9 f10 f11 f12 f13 f14
      have S5 := Lib.hid (show Sl.Sep w _ [L4.boxR w.heap.size 26 #[.string name, .slice (some ad) N c, .int .i64 auto], L4.boxR (w.heap.size + 1) 45 #[.bool rl, .bool rh, .int .i64 lk, .int .i64 ln, .string lt, .int .i64 gk, .int .i64 gn, .string gt], Sv.ownV 40 4 A C m (cellsI ys), Bag.bag (rowsI ys), L4.boxR wr.heap.size 40 #[.int .i64 kd, .int .i64 n, .string t, .slice ia l.length ic]] from L4.push_box S4.out 40 #[.int .i64 kd, .int .i64 n, .string t, .slice ia l.length ic] wr.heap.size rfl)
      clear S4
      obtain ⟨g2, hg⟩ : ∃ g', g' = wr.heap.size := ⟨_, rfl⟩
      rw [← hg] at S5 ⊢
      clear hg
      generalize wr.alloc (.cells #[.int .i64 kd, .int .i64 n, .string t, .slice ia l.length ic] 40) = w2 at S5 ⊢
      have f0 : World.cell? _ ⟨w.heap.size, 0, none⟩ = some (.string name) := Bag.cell_at S5.out 0 rfl 0 rfl
      have f1 : World.cell? _ ⟨w.heap.size, 1, none⟩ = some (.slice (some ad) N c) := Bag.cell_at S5.out 0 rfl 1 rfl
      have f2 : World.cell? _ ⟨w.heap.size, 2, none⟩ = some (.int .i64 auto) := Bag.cell_at S5.out 0 rfl 2 rfl
      have f3 : World.cell? _ ⟨w.heap.size + 1, 0, none⟩ = some (.bool rl) := Bag.cell_at S5.out 1 rfl 0 rfl
      have f4 : World.cell? _ ⟨w.heap.size + 1, 1, none⟩ = some (.bool rh) := Bag.cell_at S5.out 1 rfl 1 rfl
      have f5 : World.cell? _ ⟨w.heap.size + 1, 2, none⟩ = some (.int .i64 lk) := Bag.cell_at S5.out 1 rfl 2 rfl
      have f6 : World.cell? _ ⟨w.heap.size + 1, 3, none⟩ = some (.int .i64 ln) := Bag.cell_at S5.out 1 rfl 3 rfl
      have f7 : World.cell? _ ⟨w.heap.size + 1, 4, none⟩ = some (.string lt) := Bag.cell_at S5.out 1 rfl 4 rfl
      have f8 : World.cell? _ ⟨w.heap.size + 1, 5, none⟩ = some (.int .i64 gk) := Bag.cell_at S5.out 1 rfl 5 rfl
      have f9 : World.cell? _ ⟨w.heap.size + 1, 6, none⟩ = some (.int .i64 gn) := Bag.cell_at S5.out 1 rfl 6 rfl
      have f10 : World.cell? _ ⟨w.heap.size + 1, 7, none⟩ = some (.string gt) := Bag.cell_at S5.out 1 rfl 7 rfl
      have f11 : World.cell? _ ⟨g2, 0, none⟩ = some (.int .i64 kd) := Bag.cell_at S5.out 4 rfl 0 rfl
      have f12 : World.cell? _ ⟨g2, 1, none⟩ = some (.int .i64 n) := Bag.cell_at S5.out 4 rfl 1 rfl
      have f13 : World.cell? _ ⟨g2, 2, none⟩ = some (.string t) := Bag.cell_at S5.out 4 rfl 2 rfl
      have f14 : World.cell? _ ⟨g2, 3, none⟩ = some (.slice ia l.length ic) := Bag.cell_at S5.out 4 rfl 3 rfl
      have f15 : World.cell? _ (ad.add (k * 4)) = some (.int .i64 kd) := (HK.out _ S5.out.old).1
      have f16 : World.cell? _ (⟨(ad.add (k * 4)).block, (ad.add (k * 4)).off + 1, none⟩) = some (.int .i64 n) := (HK.out _ S5.out.old).2.1
      have f17 : World.cell? _ (⟨(ad.add (k * 4)).block, (ad.add (k * 4)).off + 2, none⟩) = some (.string t) := (HK.out _ S5.out.old).2.2.1
      have f18 : World.cell? _ (⟨(ad.add (k * 4)).block, (ad.add (k * 4)).off + 3, none⟩) = some (.slice ia l.length ic) := (HK.out _ S5.out.old).2.2.2
      go_wp2_with fail
      go_at_call 84
      refine (HIN.out _).mono ?_
      rintro e w3 ⟨rfl, hb⟩
      clear f0 f1 f2 f3 f4 f5 f6 f7 f8 f9 f10 f11 f12 f13 f14 f15 f16 f17 f18
      have S6 := Lib.hid (show Sl.Sep w _ [L4.boxR w.heap.size 26 #[.string name, .slice (some ad) N c, .int .i64 auto], L4.boxR (w.heap.size + 1) 45 #[.bool rl, .bool rh, .int .i64 lk, .int .i64 ln, .string lt, .int .i64 gk, .int .i64 gn, .string gt], Sv.ownV 40 4 A C m (cellsI ys), Bag.bag (rowsI ys), L4.boxR g2 40 #[.int .i64 kd, .int .i64 n, .string t, .slice ia l.length ic]] from S5.out.keep hb)
      clear S5
      clear hb
      have f0 : World.cell? _ ⟨w.heap.size, 0, none⟩ = some (.string name) := Bag.cell_at S6.out 0 rfl 0 rfl
      have f1 : World.cell? _ ⟨w.heap.size, 1, none⟩ = some (.slice (some ad) N c) := Bag.cell_at S6.out 0 rfl 1 rfl
      have f2 : World.cell? _ ⟨w.heap.size, 2, none⟩ = some (.int .i64 auto) := Bag.cell_at S6.out 0 rfl 2 rfl
      have f3 : World.cell? _ ⟨w.heap.size + 1, 0, none⟩ = some (.bool rl) := Bag.cell_at S6.out 1 rfl 0 rfl
      have f4 : World.cell? _ ⟨w.heap.size + 1, 1, none⟩ = some (.bool rh) := Bag.cell_at S6.out 1 rfl 1 rfl
      have f5 : World.cell? _ ⟨w.heap.size + 1, 2, none⟩ = some (.int .i64 lk) := Bag.cell_at S6.out 1 rfl 2 rfl
      have f6 : World.cell? _ ⟨w.heap.size + 1, 3, none⟩ = some (.int .i64 ln) := Bag.cell_at S6.out 1 rfl 3 rfl
      have f7 : World.cell? _ ⟨w.heap.size + 1, 4, none⟩ = some (.string lt) := Bag.cell_at S6.out 1 rfl 4 rfl
      have f8 : World.cell? _ ⟨w.heap.size + 1, 5, none⟩ = some (.int .i64 gk) := Bag.cell_at S6.out 1 rfl 5 rfl
      have f9 : World.cell? _ ⟨w.heap.size + 1, 6, none⟩ = some (.int .i64 gn) := Bag.cell_at S6.out 1 rfl 6 rfl
      have f10 : World.cell? _ ⟨w.heap.size + 1, 7, none⟩ = some (.string gt) := Bag.cell_at S6.out 1 rfl 7 rfl
      have f11 : World.cell? _ ⟨g2, 0, none⟩ = some (.int .i64 kd) := Bag.cell_at S6.out 4 rfl 0 rfl
      have f12 : World.cell? _ ⟨g2, 1, none⟩ = some (.int .i64 n) := Bag.cell_at S6.out 4 rfl 1 rfl
      have f13 : World.cell? _ ⟨g2, 2, none⟩ = some (.string t) := Bag.cell_at S6.out 4 rfl 2 rfl
      have f14 : World.cell? _ ⟨g2, 3, none⟩ = some (.slice ia l.length ic) := Bag.cell_at S6.out 4 rfl 3 rfl
      have f15 : World.cell? _ (ad.add (k * 4)) = some (.int .i64 kd) := (HK.out _ S6.out.old).1
      have f16 : World.cell? _ (⟨(ad.add (k * 4)).block, (ad.add (k * 4)).off + 1, none⟩) = some (.int .i64 n) := (HK.out _ S6.out.old).2.1
      have f17 : World.cell? _ (⟨(ad.add (k * 4)).block, (ad.add (k * 4)).off + 2, none⟩) = some (.string t) := (HK.out _ S6.out.old).2.2.1
      have f18 : World.cell? _ (⟨(ad.add (k * 4)).block, (ad.add (k * 4)).off + 3, none⟩) = some (.slice ia l.length ic) := (HK.out _ S6.out.old).2.2.2
      cases b with
      | false =>
        clear f0 f1 f2 f3 f4 f5 f6 f7 f8 f9 f10 f11 f12 f13 f14 f15 f16 f17 f18
        have S7 := Lib.hid (show Sl.Sep w _ [L4.boxR w.heap.size 26 #[.string name, .slice (some ad) N c, .int .i64 auto], L4.boxR (w.heap.size + 1) 45 #[.bool rl, .bool rh, .int .i64 lk, .int .i64 ln, .string lt, .int .i64 gk, .int .i64 gn, .string gt], Sv.ownV 40 4 A C m (cellsI ys), Bag.bag (rowsI ys)] from Bag.take S6.out [0, 1, 2, 3] (by rfl) (by decide))
        clear S6
        go_wp2_with fail
        go_roundw
        case rel => exact ⟨k + 1, m, A, C, ys, by omega, by go_num, rfl, by omega, And.intro ⟨HC.out.1, by rw [HT.out, HB.out, HC.out.2]; simp⟩ S7.out⟩
        case measure => simp [intOf]; omega
      | true =>
        go_wp2_with fail
        go_at_call 85
        refine (HCI.out _ S6.out.old).mono ?_
        rintro e w4 ⟨a1, c1, rfl, ho, hb⟩
        clear f0 f1 f2 f3 f4 f5 f6 f7 f8 f9 f10 f11 f12 f13 f14 f15 f16 f17 f18
        have S7 := Lib.hid (show Sl.Sep w _ [L4.boxR w.heap.size 26 #[.string name, .slice (some ad) N c, .int .i64 auto], L4.boxR (w.heap.size + 1) 45 #[.bool rl, .bool rh, .int .i64 lk, .int .i64 ln, .string lt, .int .i64 gk, .int .i64 gn, .string gt], Sv.ownV 40 4 A C m (cellsI ys), Bag.bag (rowsI ys), L4.boxR g2 40 #[.int .i64 kd, .int .i64 n, .string t, .slice ia l.length ic], Bag.bag ([(LI.mk ⟨kd, n, t⟩ a1 c1 l).row])] from Bag.push_bag S6.out hb ho)
        clear S6
        clear hb ho
        have f0 : World.cell? _ ⟨w.heap.size, 0, none⟩ = some (.string name) := Bag.cell_at S7.out 0 rfl 0 rfl
        have f1 : World.cell? _ ⟨w.heap.size, 1, none⟩ = some (.slice (some ad) N c) := Bag.cell_at S7.out 0 rfl 1 rfl
        have f2 : World.cell? _ ⟨w.heap.size, 2, none⟩ = some (.int .i64 auto) := Bag.cell_at S7.out 0 rfl 2 rfl
        have f3 : World.cell? _ ⟨w.heap.size + 1, 0, none⟩ = some (.bool rl) := Bag.cell_at S7.out 1 rfl 0 rfl
        have f4 : World.cell? _ ⟨w.heap.size + 1, 1, none⟩ = some (.bool rh) := Bag.cell_at S7.out 1 rfl 1 rfl
        have f5 : World.cell? _ ⟨w.heap.size + 1, 2, none⟩ = some (.int .i64 lk) := Bag.cell_at S7.out 1 rfl 2 rfl
        have f6 : World.cell? _ ⟨w.heap.size + 1, 3, none⟩ = some (.int .i64 ln) := Bag.cell_at S7.out 1 rfl 3 rfl
        have f7 : World.cell? _ ⟨w.heap.size + 1, 4, none⟩ = some (.string lt) := Bag.cell_at S7.out 1 rfl 4 rfl
        have f8 : World.cell? _ ⟨w.heap.size + 1, 5, none⟩ = some (.int .i64 gk) := Bag.cell_at S7.out 1 rfl 5 rfl
        have f9 : World.cell? _ ⟨w.heap.size + 1, 6, none⟩ = some (.int .i64 gn) := Bag.cell_at S7.out 1 rfl 6 rfl
        have f10 : World.cell? _ ⟨w.heap.size + 1, 7, none⟩ = some (.string gt) := Bag.cell_at S7.out 1 rfl 7 rfl
        have f11 : World.cell? _ ⟨g2, 0, none⟩ = some (.int .i64 kd) := Bag.cell_at S7.out 4 rfl 0 rfl
        have f12 : World.cell? _ ⟨g2, 1, none⟩ = some (.int .i64 n) := Bag.cell_at S7.out 4 rfl 1 rfl
        have f13 : World.cell? _ ⟨g2, 2, none⟩ = some (.string t) := Bag.cell_at S7.out 4 rfl 2 rfl
        have f14 : World.cell? _ ⟨g2, 3, none⟩ = some (.slice ia l.length ic) := Bag.cell_at S7.out 4 rfl 3 rfl
        have f15 : World.cell? _ (ad.add (k * 4)) = some (.int .i64 kd) := (HK.out _ S7.out.old).1
        have f16 : World.cell? _ (⟨(ad.add (k * 4)).block, (ad.add (k * 4)).off + 1, none⟩) = some (.int .i64 n) := (HK.out _ S7.out.old).2.1
        have f17 : World.cell? _ (⟨(ad.add (k * 4)).block, (ad.add (k * 4)).off + 2, none⟩) = some (.string t) := (HK.out _ S7.out.old).2.2.1
        have f18 : World.cell? _ (⟨(ad.add (k * 4)).block, (ad.add (k * 4)).off + 3, none⟩) = some (.slice ia l.length ic) := (HK.out _ S7.out.old).2.2.2
        have S8 := Lib.hid (show Sl.Sep w _ [L4.boxR w.heap.size 26 #[.string name, .slice (some ad) N c, .int .i64 auto], L4.boxR (w.heap.size + 1) 45 #[.bool rl, .bool rh, .int .i64 lk, .int .i64 ln, .string lt, .int .i64 gk, .int .i64 gn, .string gt], Sv.ownV 40 4 A C m (cellsI ys), Bag.bag (rowsI ys), L4.boxR g2 40 #[.int .i64 kd, .int .i64 n, .string t, .slice ia l.length ic], Bag.bag ([(LI.mk ⟨kd, n, t⟩ a1 c1 l).row]), Sv.ownV 40 4 (some ⟨w4.heap.size, 0, none⟩) 1 1 (cellsI [⟨⟨kd, n, t⟩, a1, c1, l⟩])] from Sv.push_own S7.out ((Below.refl _ _).alloc (Nat.le_refl _) _) (OwnV.madeAt w4 40 4 1 w4.heap.size #[.int .i64 kd, .int .i64 n, .string t, .slice a1 l.length c1] rfl (Nat.le_refl _) rfl (by decide)))
        clear S7
        go_wp2_with (at_builtin; refine L5.wpList_append_v S8.out 2 rfl rfl _ _ 24 (by rfl) i0 (.agg #[.int .i64 0, .int .i64 0, .string ⟨#[]⟩, .slice none 0 0]) 56 Try.underlying24 HI.out.1 HI.out.2.1 HI.out.2.2.1 HI.out.2.2.2 rfl (by omega) _ (by rfl) rfl _ _ 1 _ _ (cellsI [⟨⟨kd, n, t⟩, a1, c1, l⟩]) (by rfl) rfl (Sv.own_at S8.out 6 rfl).reads rfl (cellsI_one _) (by unfold maxLen; omega) (by omega) ?_; intro a3' c3' w5 hA)
        have S9 := Lib.hid (show Sl.Sep w _ [L4.boxR w.heap.size 26 #[.string name, .slice (some ad) N c, .int .i64 auto], L4.boxR (w.heap.size + 1) 45 #[.bool rl, .bool rh, .int .i64 lk, .int .i64 ln, .string lt, .int .i64 gk, .int .i64 gn, .string gt], Sv.ownV 40 4 a3' c3' (m + 1) (cellsI ys ++ (cellsI [⟨⟨kd, n, t⟩, a1, c1, l⟩])), Bag.bag (rowsI ys), L4.boxR g2 40 #[.int .i64 kd, .int .i64 n, .string t, .slice ia l.length ic], Bag.bag ([(LI.mk ⟨kd, n, t⟩ a1 c1 l).row]), Sv.ownV 40 4 (some ⟨w4.heap.size, 0, none⟩) 1 1 (cellsI [⟨⟨kd, n, t⟩, a1, c1, l⟩])] from hA)
        clear S8
        clear hA
        clear f0 f1 f2 f3 f4 f5 f6 f7 f8 f9 f10 f11 f12 f13 f14 f15 f16 f17 f18
        have S10 := Lib.hid (show Sl.Sep w _ [L4.boxR w.heap.size 26 #[.string name, .slice (some ad) N c, .int .i64 auto], L4.boxR (w.heap.size + 1) 45 #[.bool rl, .bool rh, .int .i64 lk, .int .i64 ln, .string lt, .int .i64 gk, .int .i64 gn, .string gt], Sv.ownV 40 4 a3' c3' (m + 1) (cellsI ys ++ (cellsI [⟨⟨kd, n, t⟩, a1, c1, l⟩])), Bag.bag (rowsI ys ++ ([(LI.mk ⟨kd, n, t⟩ a1 c1 l).row])), L4.boxR g2 40 #[.int .i64 kd, .int .i64 n, .string t, .slice ia l.length ic], Bag.bag ([]), Sv.ownV 40 4 (some ⟨w4.heap.size, 0, none⟩) 1 1 (cellsI [⟨⟨kd, n, t⟩, a1, c1, l⟩])] from Bag.bag_join S9.out 3 5 (by decide) rfl rfl)
        clear S9
        have S11 := Lib.hid (show Sl.Sep w _ [L4.boxR w.heap.size 26 #[.string name, .slice (some ad) N c, .int .i64 auto], L4.boxR (w.heap.size + 1) 45 #[.bool rl, .bool rh, .int .i64 lk, .int .i64 ln, .string lt, .int .i64 gk, .int .i64 gn, .string gt], Sv.ownV 40 4 a3' c3' (m + 1) (cellsI ys ++ (cellsI [⟨⟨kd, n, t⟩, a1, c1, l⟩])), Bag.bag (rowsI ys ++ ([(LI.mk ⟨kd, n, t⟩ a1 c1 l).row]))] from Bag.take S10.out [0, 1, 2, 3] (by rfl) (by decide))
        clear S10
        go_roundw
        case rel =>
          refine ⟨k + 1, m + 1, a3', c3', ys ++ [⟨⟨kd, n, t⟩, a1, c1, l⟩], by omega, by go_num, rfl, by omega, And.intro ⟨?_, ?_⟩ ?_⟩
          · rw [List.length_append, ← HC.out.1]; rfl
          · rw [HT.out, HB.out, conI_snoc, HC.out.2]; rfl
          · rw [cellsI_append, rowsI_append]; exact S11.out
        case measure => simp [intOf]; omega
    · skip
      have f0 : World.cell? _ ⟨w.heap.size, 0, none⟩ = some (.string name) := Bag.cell_at S4.out 0 rfl 0 rfl
      have f1 : World.cell? _ ⟨w.heap.size, 1, none⟩ = some (.slice a N c) := Bag.cell_at S4.out 0 rfl 1 rfl
      have f2 : World.cell? _ ⟨w.heap.size, 2, none⟩ = some (.int .i64 auto) := Bag.cell_at S4.out 0 rfl 2 rfl
      have f3 : World.cell? _ ⟨w.heap.size + 1, 0, none⟩ = some (.bool rl) := Bag.cell_at S4.out 1 rfl 0 rfl
      have f4 : World.cell? _ ⟨w.heap.size + 1, 1, none⟩ = some (.bool rh) := Bag.cell_at S4.out 1 rfl 1 rfl
      have f5 : World.cell? _ ⟨w.heap.size + 1, 2, none⟩ = some (.int .i64 lk) := Bag.cell_at S4.out 1 rfl 2 rfl
      have f6 : World.cell? _ ⟨w.heap.size + 1, 3, none⟩ = some (.int .i64 ln) := Bag.cell_at S4.out 1 rfl 3 rfl
      have f7 : World.cell? _ ⟨w.heap.size + 1, 4, none⟩ = some (.string lt) := Bag.cell_at S4.out 1 rfl 4 rfl
      have f8 : World.cell? _ ⟨w.heap.size + 1, 5, none⟩ = some (.int .i64 gk) := Bag.cell_at S4.out 1 rfl 5 rfl
      have f9 : World.cell? _ ⟨w.heap.size + 1, 6, none⟩ = some (.int .i64 gn) := Bag.cell_at S4.out 1 rfl 6 rfl
      have f10 : World.cell? _ ⟨w.heap.size + 1, 7, none⟩ = some (.string gt) := Bag.cell_at S4.out 1 rfl 7 rfl
      go_wp2_with fail
      go_ret
      obtain rfl : k = N := by omega
      obtain ⟨hm, hc⟩ := HC.out
      rw [List.take_of_length_le (show (conI xs).length ≤ k by have := HN.out; simp; omega)] at hc
      subst hm
      have S90 := Lib.hid (Bag.bag_of_one S4.out 2 (r := rowI A C ys) rfl)
      have S91 := Lib.hid (Bag.bag_join S90.out 2 3 (by decide) rfl rfl)
      exact ⟨A, C, ys, rfl, hc, Bag.bag_from S91.out 2 rfl, S91.out.old⟩
set_option maxHeartbeats 8000000 in
theorem sizeStore_any (y : LS) (hf : FitS y.con) (w : World) (hr : RowsRd w w.heap.size y.rows) :
    Calls Try.prog 32 #[y.v] w fun e w' => e = .returned (.int .i64 (szI y.con.items)) ∧ Below w.heap.size w w' := by
  obtain ⟨name, a, c, xs, auto⟩ := y
  have HR := Lib.hid (fun w' (h : Below w.heap.size w w') => LS.outer (hr.below h))
  have HX := Lib.hid (fun w' (h : Below w.heap.size w w') => (LS.inner (hr.below h)).more h.size)
  have HF := Lib.hid hf.items
  have HNM := Lib.hid hf.name
  have hl := hf.len
  simp only [LS.con, conI_length] at hl
  dsimp only [LS.con] at HR HX HF HNM
  try unfold LS.v LS.cells LS.con
  try dsimp only
  obtain ⟨N, hN⟩ : ∃ n, n = xs.length := ⟨_, rfl⟩
  rw [← hN] at hl ⊢
  have hl' : (N : Int) ≤ 1048576 := by omega
  have HN := Lib.hid hN
  clear hN hr hf
  have S1 := Lib.hid (show Sl.Sep w (w.alloc (.cells #[.string name, .slice a N c, .int .i64 auto] 26)) [L4.boxR w.heap.size 26 #[.string name, .slice a N c, .int .i64 auto]] from L4.push_box (Sl.Sep.start w) 26 #[.string name, .slice a N c, .int .i64 auto] (w.heap.size) (by simp))
  obtain ⟨wa, hwa⟩ : ∃ u, u = (w.alloc (.cells #[.string name, .slice a N c, .int .i64 auto] 26)) := ⟨_, rfl⟩
  rw [← hwa] at S1
  go_enter Try.func32, Try.ntmps32
  go_upto_region 1 with fail
  rw [← hwa]
  clear hwa
  have f0 : World.cell? _ ⟨w.heap.size, 0, none⟩ = some (.string name) := Bag.cell_at S1.out 0 rfl 0 rfl
  have f1 : World.cell? _ ⟨w.heap.size, 1, none⟩ = some (.slice a N c) := Bag.cell_at S1.out 0 rfl 1 rfl
  have f2 : World.cell? _ ⟨w.heap.size, 2, none⟩ = some (.int .i64 auto) := Bag.cell_at S1.out 0 rfl 2 rfl
  go_wp2_with fail
  clear f0 f1 f2
  go_loopw [3, 9] (fun v i wr => ∃ k m : Nat, k ≤ N ∧ i = .int .i64 k ∧ v = .int .i64 m ∧ m ≤ k * 1100 ∧ Hid (m = szI ((conI xs).take k) ∧ Sl.Sep w wr [L4.boxR w.heap.size 26 #[.string name, .slice a N c, .int .i64 auto]])) (fun _ i _ => N - (intOf i).toNat)
  case atStart => exact ⟨0, 0, Nat.zero_le _, rfl, rfl, by omega, And.intro rfl S1.out⟩
  case round =>
    obtain ⟨k, m, hk, rfl, rfl, hm, hrel⟩ := hrel
    have HM := Lib.hid hrel.out.1
    have S2 := Lib.hid hrel.out.2
    clear hrel S1
    by_cases hlt : (k : Int) < (N : Int)
    · skip
      have hkl : k < xs.length := by have := HN.out; omega
      obtain ⟨ad, x, rfl, hx⟩ := readsI_some (HR.out _ S2.out.old) k hkl
      obtain ⟨⟨kd, n, t⟩, ia, ic, l⟩ := x
      have HK := Lib.hid (fun w' (h : Below w.heap.size w w') => readsI_at (HR.out _ h) k _ hx)
      try dsimp only at HK
      have HFI := Lib.hid (fit_at HF.out hx)
      try dsimp only [LI.con] at HFI
      have HC := Lib.hid (show (conI xs)[k]? = some (⟨⟨kd, n, t⟩, l⟩ : It) from con_of hx)
      have HEK := fun w => L4.implEncodeKey_any ⟨kd, n, t⟩ HFI.out.text w
      obtain ⟨ek, hek⟩ : ∃ u, L4.toI (encU ⟨kd, n, t⟩) = u := ⟨_, rfl⟩
      rw [hek] at HEK
      replace HEK := Lib.hid HEK
      have HER := fun w' (h : Below w.heap.size w w') => L5.encodeRecord_any ia ic l (by have : l.length ≤ 1048576 := HFI.out.len; omega) HFI.out.small w' (((HX.out _ h).at_ (rowsI_mem hx)).reads)
      obtain ⟨er, her⟩ : ∃ u, encR l = u := ⟨_, rfl⟩
      rw [her] at HER
      replace HER := Lib.hid HER
      obtain ⟨p, hp⟩ : ∃ p, p = ek.length := ⟨_, rfl⟩
      obtain ⟨q, hq⟩ : ∃ q, q = er.length := ⟨_, rfl⟩
      have hpl : p ≤ 50 := by rw [hp, ← hek, L4.toI_length]; exact encU_small _
      have hql : q ≤ 1000 := by rw [hq, ← her]; exact encR_small l
      have HS := Lib.hid (show szI ((conI xs).take (k + 1)) = m + (p + q) from by rw [szI_take HC.out, ← HM.out, hp, hq, ← hek, ← her, L4.toI_length])
      have HPQ := Lib.hid (And.intro hp hq)
      clear hp hq hek her hx
      have hwa : IntKind.i64.wrap ((p : Int) + (q : Int)) = (p : Int) + (q : Int) := IntWalk.i64_in _ ⟨by omega, by omega⟩
      have hwb : IntKind.i64.wrap ((m : Int) + ((p : Int) + (q : Int))) = (m : Int) + ((p : Int) + (q : Int)) := IntWalk.i64_in _ ⟨by omega, by omega⟩
      have f0 : World.cell? _ ⟨w.heap.size, 0, none⟩ = some (.string name) := Bag.cell_at S2.out 0 rfl 0 rfl
      have f1 : World.cell? _ ⟨w.heap.size, 1, none⟩ = some (.slice (some ad) N c) := Bag.cell_at S2.out 0 rfl 1 rfl
      have f2 : World.cell? _ ⟨w.heap.size, 2, none⟩ = some (.int .i64 auto) := Bag.cell_at S2.out 0 rfl 2 rfl
      have f3 : World.cell? _ (ad.add (k * 4)) = some (.int .i64 kd) := (HK.out _ S2.out.old).1
      have f4 : World.cell? _ (⟨(ad.add (k * 4)).block, (ad.add (k * 4)).off + 1, none⟩) = some (.int .i64 n) := (HK.out _ S2.out.old).2.1
      have f5 : World.cell? _ (⟨(ad.add (k * 4)).block, (ad.add (k * 4)).off + 2, none⟩) = some (.string t) := (HK.out _ S2.out.old).2.2.1
      have f6 : World.cell? _ (⟨(ad.add (k * 4)).block, (ad.add (k * 4)).off + 3, none⟩) = some (.slice ia l.length ic) := (HK.out _ S2.out.old).2.2.2
      go_upto_region 5 with fail
      clear f0 f1 f2 f3 f4 f5 f6
      have S3 := Lib.hid (show Sl.Sep w _ [L4.boxR w.heap.size 26 #[.string name, .slice (some ad) N c, .int .i64 auto], L4.boxR wr.heap.size 40 #[.int .i64 kd, .int .i64 n, .string t, .slice ia l.length ic]] from L4.push_box S2.out 40 #[.int .i64 kd, .int .i64 n, .string t, .slice ia l.length ic] wr.heap.size rfl)
      clear S2
      obtain ⟨g1, hg⟩ : ∃ g', g' = wr.heap.size := ⟨_, rfl⟩
      rw [← hg] at S3 ⊢
      clear hg
      generalize wr.alloc (.cells #[.int .i64 kd, .int .i64 n, .string t, .slice ia l.length ic] 40) = w1 at S3 ⊢
      have f0 : World.cell? _ ⟨w.heap.size, 0, none⟩ = some (.string name) := Bag.cell_at S3.out 0 rfl 0 rfl
      have f1 : World.cell? _ ⟨w.heap.size, 1, none⟩ = some (.slice (some ad) N c) := Bag.cell_at S3.out 0 rfl 1 rfl
      have f2 : World.cell? _ ⟨w.heap.size, 2, none⟩ = some (.int .i64 auto) := Bag.cell_at S3.out 0 rfl 2 rfl
      have f3 : World.cell? _ ⟨g1, 0, none⟩ = some (.int .i64 kd) := Bag.cell_at S3.out 1 rfl 0 rfl
      have f4 : World.cell? _ ⟨g1, 1, none⟩ = some (.int .i64 n) := Bag.cell_at S3.out 1 rfl 1 rfl
      have f5 : World.cell? _ ⟨g1, 2, none⟩ = some (.string t) := Bag.cell_at S3.out 1 rfl 2 rfl
      have f6 : World.cell? _ ⟨g1, 3, none⟩ = some (.slice ia l.length ic) := Bag.cell_at S3.out 1 rfl 3 rfl
      have f7 : World.cell? _ (ad.add (k * 4)) = some (.int .i64 kd) := (HK.out _ S3.out.old).1
      have f8 : World.cell? _ (⟨(ad.add (k * 4)).block, (ad.add (k * 4)).off + 1, none⟩) = some (.int .i64 n) := (HK.out _ S3.out.old).2.1
      have f9 : World.cell? _ (⟨(ad.add (k * 4)).block, (ad.add (k * 4)).off + 2, none⟩) = some (.string t) := (HK.out _ S3.out.old).2.2.1
      have f10 : World.cell? _ (⟨(ad.add (k * 4)).block, (ad.add (k * 4)).off + 3, none⟩) = some (.slice ia l.length ic) := (HK.out _ S3.out.old).2.2.2
      go_upto_region 5 with fail
      clear f0 f1 f2 f3 f4 f5 f6 f7 f8 f9 f10
      refine wp_region_held_drew (S := (fun w' => World.cell? w' ⟨w.heap.size, 0, none⟩ = some (.string name) ∧ World.cell? w' ⟨w.heap.size, 1, none⟩ = some (.slice (some ad) N c) ∧ World.cell? w' ⟨w.heap.size, 2, none⟩ = some (.int .i64 auto) ∧ World.cell? w' ⟨g1, 0, none⟩ = some (.int .i64 kd) ∧ World.cell? w' ⟨g1, 1, none⟩ = some (.int .i64 n) ∧ World.cell? w' ⟨g1, 2, none⟩ = some (.string t) ∧ World.cell? w' ⟨g1, 3, none⟩ = some (.slice ia l.length ic) ∧ World.cell? w' (ad.add (k * 4)) = some (.int .i64 kd) ∧ World.cell? w' (⟨(ad.add (k * 4)).block, (ad.add (k * 4)).off + 1, none⟩) = some (.int .i64 n) ∧ World.cell? w' (⟨(ad.add (k * 4)).block, (ad.add (k * 4)).off + 2, none⟩) = some (.string t) ∧ World.cell? w' (⟨(ad.add (k * 4)).block, (ad.add (k * 4)).off + 3, none⟩) = some (.slice ia l.length ic))) (by kernel_rfl) ⟨Bag.cell_at S3.out 0 rfl 0 rfl, Bag.cell_at S3.out 0 rfl 1 rfl, Bag.cell_at S3.out 0 rfl 2 rfl, Bag.cell_at S3.out 1 rfl 0 rfl, Bag.cell_at S3.out 1 rfl 1 rfl, Bag.cell_at S3.out 1 rfl 2 rfl, Bag.cell_at S3.out 1 rfl 3 rfl, (HK.out _ S3.out.old).1, (HK.out _ S3.out.old).2.1, (HK.out _ S3.out.old).2.2.1, (HK.out _ S3.out.old).2.2.2⟩ (fun hS => ?_)
      have S4 := Lib.hid (show Sl.Sep w _ [L4.boxR w.heap.size 26 #[.string name, .slice (some ad) N c, .int .i64 auto], L4.boxR g1 40 #[.int .i64 kd, .int .i64 n, .string t, .slice ia l.length ic]] from Bag.drew1 S3.out)
      clear S3
      generalize World.drew _ = w2 at hS S4 ⊢
      refine tk 0 rfl ?_
      try simp only [zp0, zp1, zp2, zp3, zp4]
      refine tk 1 rfl ?_
      try simp only [zp0, zp1, zp2, zp3, zp4]
      refine tk 2 rfl ?_
      try simp only [zp0, zp1, zp2, zp3, zp4]
      refine tk 5 rfl ?_
      try simp only [zp0, zp1, zp2, zp3, zp4]
      refine tk 6 rfl ?_
      try simp only [zp0, zp1, zp2, zp3, zp4]
      refine Reg.one_op (i := 3) rfl (by kernel_rfl) (fun K hK => ?_)
      go_simp
      go_at_call 89
      refine (HEK.out _).mono ?_
      rintro e w3 ⟨a1, c1, rfl, ho, hb⟩
      have S5 := Lib.hid (show Sl.Sep w _ [L4.boxR w.heap.size 26 #[.string name, .slice (some ad) N c, .int .i64 auto], L4.boxR g1 40 #[.int .i64 kd, .int .i64 n, .string t, .slice ia l.length ic], Sl.own 5 .u8 a1 c1 ek] from Sl.Sep.pushOwn S4.out hb ho)
      clear S4
      clear hb ho
      rw [← HPQ.out.1]
      go_wp2_with fail
      refine hK.out _ _ ⟨Bag.cell_at S5.out 0 rfl 0 rfl, Bag.cell_at S5.out 0 rfl 1 rfl, Bag.cell_at S5.out 0 rfl 2 rfl, Bag.cell_at S5.out 1 rfl 0 rfl, Bag.cell_at S5.out 1 rfl 1 rfl, Bag.cell_at S5.out 1 rfl 2 rfl, Bag.cell_at S5.out 1 rfl 3 rfl, (HK.out _ S5.out.old).1, (HK.out _ S5.out.old).2.1, (HK.out _ S5.out.old).2.2.1, (HK.out _ S5.out.old).2.2.2⟩ (fun hS => ?_)
      clear hK K
      try simp only [zp0, zp1, zp2, zp3, zp4]
      refine tk 4 rfl ?_
      try simp only [zp0, zp1, zp2, zp3, zp4]
      refine Reg.one_op (i := 7) rfl (by kernel_rfl) (fun K hK => ?_)
      go_simp
      go_at_call 90
      refine (HER.out _ S5.out.old).mono ?_
      rintro e w4 ⟨a2', c2', rfl, ho, hb⟩
      have S6 := Lib.hid (show Sl.Sep w _ [L4.boxR w.heap.size 26 #[.string name, .slice (some ad) N c, .int .i64 auto], L4.boxR g1 40 #[.int .i64 kd, .int .i64 n, .string t, .slice ia l.length ic], Sl.own 5 .u8 a1 c1 ek, Sl.own 5 .u8 a2' c2' er] from Sl.Sep.pushOwn S5.out hb ho)
      clear S5
      clear hb ho
      rw [← HPQ.out.2]
      go_wp2_with fail
      refine hK.out _ _ ⟨Bag.cell_at S6.out 0 rfl 0 rfl, Bag.cell_at S6.out 0 rfl 1 rfl, Bag.cell_at S6.out 0 rfl 2 rfl, Bag.cell_at S6.out 1 rfl 0 rfl, Bag.cell_at S6.out 1 rfl 1 rfl, Bag.cell_at S6.out 1 rfl 2 rfl, Bag.cell_at S6.out 1 rfl 3 rfl, (HK.out _ S6.out.old).1, (HK.out _ S6.out.old).2.1, (HK.out _ S6.out.old).2.2.1, (HK.out _ S6.out.old).2.2.2⟩ (fun hS => ?_)
      clear hK K
      try simp only [zp0, zp1, zp2, zp3, zp4]
      refine tk 8 rfl ?_
      try simp only [zp0, zp1, zp2, zp3, zp4]
      refine tk 9 rfl ?_
      try simp only [zp0, zp1, zp2, zp3, zp4]
      refine tk 10 rfl ?_
      try simp only [zp0, zp1, zp2, zp3, zp4]
      refine tk 11 rfl ?_
      try simp only [zp0, zp1, zp2, zp3, zp4]
      refine wpAnyH_done (by kernel_rfl) ?_ _
      have f0 : World.cell? _ ⟨w.heap.size, 0, none⟩ = some (.string name) := Bag.cell_at S6.out 0 rfl 0 rfl
      have f1 : World.cell? _ ⟨w.heap.size, 1, none⟩ = some (.slice (some ad) N c) := Bag.cell_at S6.out 0 rfl 1 rfl
      have f2 : World.cell? _ ⟨w.heap.size, 2, none⟩ = some (.int .i64 auto) := Bag.cell_at S6.out 0 rfl 2 rfl
      have f3 : World.cell? _ ⟨g1, 0, none⟩ = some (.int .i64 kd) := Bag.cell_at S6.out 1 rfl 0 rfl
      have f4 : World.cell? _ ⟨g1, 1, none⟩ = some (.int .i64 n) := Bag.cell_at S6.out 1 rfl 1 rfl
      have f5 : World.cell? _ ⟨g1, 2, none⟩ = some (.string t) := Bag.cell_at S6.out 1 rfl 2 rfl
      have f6 : World.cell? _ ⟨g1, 3, none⟩ = some (.slice ia l.length ic) := Bag.cell_at S6.out 1 rfl 3 rfl
      have f7 : World.cell? _ (ad.add (k * 4)) = some (.int .i64 kd) := (HK.out _ S6.out.old).1
      have f8 : World.cell? _ (⟨(ad.add (k * 4)).block, (ad.add (k * 4)).off + 1, none⟩) = some (.int .i64 n) := (HK.out _ S6.out.old).2.1
      have f9 : World.cell? _ (⟨(ad.add (k * 4)).block, (ad.add (k * 4)).off + 2, none⟩) = some (.string t) := (HK.out _ S6.out.old).2.2.1
      have f10 : World.cell? _ (⟨(ad.add (k * 4)).block, (ad.add (k * 4)).off + 3, none⟩) = some (.slice ia l.length ic) := (HK.out _ S6.out.old).2.2.2
      clear f0 f1 f2 f3 f4 f5 f6 f7 f8 f9 f10
      have S7 := Lib.hid (show Sl.Sep w _ [L4.boxR w.heap.size 26 #[.string name, .slice (some ad) N c, .int .i64 auto]] from Bag.take S6.out [0] (by rfl) (by decide))
      clear S6
      have f0 : World.cell? _ ⟨w.heap.size, 0, none⟩ = some (.string name) := Bag.cell_at S7.out 0 rfl 0 rfl
      have f1 : World.cell? _ ⟨w.heap.size, 1, none⟩ = some (.slice (some ad) N c) := Bag.cell_at S7.out 0 rfl 1 rfl
      have f2 : World.cell? _ ⟨w.heap.size, 2, none⟩ = some (.int .i64 auto) := Bag.cell_at S7.out 0 rfl 2 rfl
      have f3 : World.cell? _ (ad.add (k * 4)) = some (.int .i64 kd) := (HK.out _ S7.out.old).1
      have f4 : World.cell? _ (⟨(ad.add (k * 4)).block, (ad.add (k * 4)).off + 1, none⟩) = some (.int .i64 n) := (HK.out _ S7.out.old).2.1
      have f5 : World.cell? _ (⟨(ad.add (k * 4)).block, (ad.add (k * 4)).off + 2, none⟩) = some (.string t) := (HK.out _ S7.out.old).2.2.1
      have f6 : World.cell? _ (⟨(ad.add (k * 4)).block, (ad.add (k * 4)).off + 3, none⟩) = some (.slice ia l.length ic) := (HK.out _ S7.out.old).2.2.2
      go_wp2_with fail
      go_roundw
      case rel => exact ⟨k + 1, m + (p + q), by omega, by go_num, by first | rfl | (rw [hwa, hwb]; rfl) | go_num, by omega, And.intro (by rw [HS.out]) S7.out⟩
      case measure => simp [intOf]; omega
    · skip
      have f0 : World.cell? _ ⟨w.heap.size, 0, none⟩ = some (.string name) := Bag.cell_at S2.out 0 rfl 0 rfl
      have f1 : World.cell? _ ⟨w.heap.size, 1, none⟩ = some (.slice a N c) := Bag.cell_at S2.out 0 rfl 1 rfl
      have f2 : World.cell? _ ⟨w.heap.size, 2, none⟩ = some (.int .i64 auto) := Bag.cell_at S2.out 0 rfl 2 rfl
      go_wp2_with fail
      go_ret
      have hk2 : k = N := by omega
      have HE := Lib.hid (show (conI xs).take k = conI xs from List.take_of_length_le (by rw [conI_length, ← HN.out]; omega))
      exact ⟨by have h1 := HM.out; rw [HE.out] at h1; rw [← h1]; rfl, S2.out.old⟩
end Go.Proofs.Ytkfejjoehgipmaa.L6
