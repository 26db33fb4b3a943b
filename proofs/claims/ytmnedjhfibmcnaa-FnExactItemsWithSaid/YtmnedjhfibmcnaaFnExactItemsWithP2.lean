/-
  What the law FnExactItemsWith needs, laid by my program lawpack.py, part 2: the texts L7Sa, L5Cp, L6Ia, L5Ia, L6Iw, L7Ia, one behind the other; each begins with its own words.
-/
import Derived.Test.YtmnedjhfibmcnaaFnExactItemsWithP1
set_option linter.unusedSimpArgs false
/-
  The contracts of chapter 7's functions of the specification, I: l7Less, ItemsWith, CountWith. Conditions: keys' texts of at most 2^40 bytes, at most 2^20 fields and items. (Written by my program gen_l7a.py.)
-/
namespace Go.Proofs.Ytmnedjhfibmcnaa.L7
set_option maxRecDepth 100000
open L4 (K isK cmpK R inR encU)
open L5 (F isR isN cellsF encR eqR Small getO getN getB)
open L6
open Go.ChangeShapes Go.WideShapes Go.ChangeAt Go.RowKit Mem Sl Ex L2 Sv Bag
set_option linter.unusedVariables false
set_option linter.unusedSimpArgs false

theorem beq_no {a b : Int} (h : ¬ a = b) : (a == b) = false := by simpa using h

set_option maxHeartbeats 8000000 in
theorem specItemsWith_any (y : LS) (f : ByteArray) (q : Int) (hf : FitS y.con) (w : World) (hr : RowsRd w w.heap.size y.rows) :
    Calls Try.prog 48 #[y.v, .string f, .int .i64 q] w (GaveIs w (withI y.con.items f.data.toList q)) := by
  obtain ⟨i0, hi1, hi2, hi3, hi4⟩ := itemInfo
  have HI := Lib.hid (And.intro hi1 (And.intro hi2 (And.intro hi3 hi4)))
  clear hi1 hi2 hi3 hi4
  obtain ⟨name, a, c, xs, auto⟩ := y
  have HR := Lib.hid (fun w' (h : Below w.heap.size w w') => LS.outer (hr.below h))
  have HX := Lib.hid (fun w' (h : Below w.heap.size w w') => (LS.inner (hr.below h)).more h.size)
  have HF := Lib.hid hf.items
  have HNM := Lib.hid hf.name
  have hl := hf.len
  simp only [LS.con, conI_length] at hl
  dsimp only [LS.con] at HR HX HF HNM
  try unfold LS.v LS.cells LS.con
  try dsimp only
  obtain ⟨N, hN⟩ : ∃ n, n = xs.length := ⟨_, rfl⟩
  rw [← hN] at hl ⊢
  have hl' : (N : Int) ≤ 1048576 := by omega
  have HN := Lib.hid hN
  clear hN hr hf
  have S1 := Lib.hid (show Sl.Sep w (w.alloc (.cells #[.string name, .slice a N c, .int .i64 auto] 26)) [L4.boxR w.heap.size 26 #[.string name, .slice a N c, .int .i64 auto]] from L4.push_box (Sl.Sep.start w) 26 #[.string name, .slice a N c, .int .i64 auto] (w.heap.size) (by simp))
  obtain ⟨wa, hwa⟩ : ∃ u, u = (w.alloc (.cells #[.string name, .slice a N c, .int .i64 auto] 26)) := ⟨_, rfl⟩
  rw [← hwa] at S1
  go_enter Try.func48, Try.ntmps48
  go_upto_region 1 with fail
  rw [← hwa]
  clear hwa
  go_upto_region 2 with fail
  have S2 := Lib.hid (show Sl.Sep w _ [L4.boxR w.heap.size 26 #[.string name, .slice a N c, .int .i64 auto], Sv.ownV 43 4 (some ⟨wa.heap.size, 0, none⟩) 0 0 (cellsI [])] from Sv.push_own S1.out ((Below.refl _ _).alloc (Nat.le_refl _) _) (OwnV.madeAt wa 43 4 0 wa.heap.size #[] rfl (Nat.le_refl _) rfl (by decide)))
  clear S1
  obtain ⟨g1, hg⟩ : ∃ g', g' = wa.heap.size := ⟨_, rfl⟩
  rw [← hg] at S2 ⊢
  clear hg
  generalize wa.alloc (.cells #[] 43) = w1 at S2 ⊢
  have S3 := Lib.hid (show Sl.Sep w _ [L4.boxR w.heap.size 26 #[.string name, .slice a N c, .int .i64 auto], Sv.ownV 43 4 (some ⟨g1, 0, none⟩) 0 0 (cellsI []), Bag.bag (rowsI [])] from Bag.push_bag S2.out (Below.refl _ _) (Bag.BagOwn.nil _ _))
  clear S2
  go_wp2_with fail
  go_loopw [7, 8] (fun v i wr => ∃ (k m : Nat) (A : Option Addr) (C : Nat) (ys : List LI), k ≤ N ∧ i = .int .i64 k ∧ v = .slice A m C ∧ m ≤ k ∧ Hid ((m = ys.length ∧ conI ys = withI ((conI xs).take k) f.data.toList q) ∧ Sl.Sep w wr [L4.boxR w.heap.size 26 #[.string name, .slice a N c, .int .i64 auto], Sv.ownV 43 4 A C m (cellsI ys), Bag.bag (rowsI ys)])) (fun _ i _ => N - (intOf i).toNat)
  case atStart => exact ⟨0, 0, _, _, [], Nat.zero_le _, rfl, rfl, Nat.le_refl _, And.intro ⟨rfl, rfl⟩ S3.out⟩
  case round =>
    obtain ⟨k, m, A, C, ys, hk, rfl, rfl, hmk, hrel⟩ := hrel
    have HC := Lib.hid hrel.out.1
    have S4 := Lib.hid hrel.out.2
    clear hrel S3
    by_cases hlt : (k : Int) < (N : Int)
    · skip
      have hkl : k < xs.length := by have := HN.out; omega
      obtain ⟨ad, x, rfl, hx⟩ := readsI_some (HR.out _ S4.out.old) k hkl
      obtain ⟨⟨kd, n, t⟩, ia, ic, l⟩ := x
      have HK := Lib.hid (fun w' (h : Below w.heap.size w w') => readsI_at (HR.out _ h) k _ hx)
      try dsimp only at HK
      have HFI := Lib.hid (fit_at HF.out hx)
      try dsimp only [LI.con] at HFI
      have HCI := Lib.hid (fun w' (h : Below w.heap.size w w') => l6Item_any kd n t ia ic l HFI.out.len w' (((HX.out _ h).at_ (rowsI_mem hx)).reads))
      try dsimp only at HCI
      have HGF := Lib.hid (fun w' (h : Below w.heap.size w w') => L5.specGetField_any ia ic l f (by have : l.length ≤ 1048576 := HFI.out.len; omega) w' (((HX.out _ h).at_ (rowsI_mem hx)).reads))
      obtain ⟨fn, hfn⟩ : ∃ u, getN l f.data.toList = u := ⟨_, rfl⟩
      obtain ⟨fb, hfb⟩ : ∃ u, getB l f.data.toList = u := ⟨_, rfl⟩
      rw [hfn, hfb] at HGF
      have HT := Lib.hid (withI_take (t := f.data.toList) (n := q) (show (conI xs)[k]? = some (⟨⟨kd, n, t⟩, l⟩ : It) from con_of hx))
      clear hx
      unfold hitI at HT
      dsimp only at HT
      rw [hfn, hfb] at HT
      clear hfn hfb
      have hh := Bag.cs3 S4.out 0 rfl
      have f0 := hh.1; have f1 := hh.2.1; have f2 := hh.2.2; clear hh
      have hh := HK.out _ S4.out.old
      have f3 := hh.1; have f4 := hh.2.1; have f5 := hh.2.2.1; have f6 := hh.2.2.2; clear hh
      go_wp2_with fail
      go_at_call 26
      refine (HGF.out _ S4.out.old).mono ?_
      rintro e w2 ⟨rfl, hb⟩
      clear f0 f1 f2 f3 f4 f5 f6
      have S5 := Lib.hid (S4.out.keep hb)
      clear S4
      clear hb
      have hh := Bag.cs3 S5.out 0 rfl
      have f0 := hh.1; have f1 := hh.2.1; have f2 := hh.2.2; clear hh
      have hh := HK.out _ S5.out.old
      have f3 := hh.1; have f4 := hh.2.1; have f5 := hh.2.2.1; have f6 := hh.2.2.2; clear hh
      cases fb with
      | false =>
        go_wp2_with fail
        go_roundw
        case rel => exact ⟨k + 1, m, A, C, ys, by omega, by go_num, rfl, by omega, And.intro ⟨HC.out.1, by rw [HT.out, HC.out.2]; simp⟩ S5.out⟩
        case measure => simp [intOf]; omega
      | true =>
        by_cases he : fn = q
        · have he' : (fn == q) = true := by simp [he]
          go_wp2_with fail
          go_at_call 91
          refine (HCI.out _ S5.out.old).mono ?_
          rintro e w3 ⟨a1, c1, rfl, ho, hb⟩
          clear f0 f1 f2 f3 f4 f5 f6
          have S6 := Lib.hid (show Sl.Sep w _ [L4.boxR w.heap.size 26 #[.string name, .slice (some ad) N c, .int .i64 auto], Sv.ownV 43 4 A C m (cellsI ys), Bag.bag (rowsI ys), Bag.bag ([(LI.mk ⟨kd, n, t⟩ a1 c1 l).row])] from Bag.push_bag S5.out hb ho)
          clear S5
          clear hb ho
          have hh := Bag.cs3 S6.out 0 rfl
          have f0 := hh.1; have f1 := hh.2.1; have f2 := hh.2.2; clear hh
          have hh := HK.out _ S6.out.old
          have f3 := hh.1; have f4 := hh.2.1; have f5 := hh.2.2.1; have f6 := hh.2.2.2; clear hh
          have S7 := Lib.hid (show Sl.Sep w _ [L4.boxR w.heap.size 26 #[.string name, .slice (some ad) N c, .int .i64 auto], Sv.ownV 43 4 A C m (cellsI ys), Bag.bag (rowsI ys), Bag.bag ([(LI.mk ⟨kd, n, t⟩ a1 c1 l).row]), Sv.ownV 43 4 (some ⟨w3.heap.size, 0, none⟩) 1 1 (cellsI [⟨⟨kd, n, t⟩, a1, c1, l⟩])] from Sv.push_own S6.out ((Below.refl _ _).alloc (Nat.le_refl _) _) (OwnV.madeAt w3 43 4 1 w3.heap.size #[.int .i64 kd, .int .i64 n, .string t, .slice a1 l.length c1] rfl (Nat.le_refl _) rfl (by decide)))
          clear S6
          go_wp2_with (at_builtin; refine L5.wpList_append_v S7.out 1 rfl rfl _ _ 24 (by rfl) i0 (.agg #[.int .i64 0, .int .i64 0, .string ⟨#[]⟩, .slice none 0 0]) 56 Try.underlying24 HI.out.1 HI.out.2.1 HI.out.2.2.1 HI.out.2.2.2 rfl (by omega) _ (by rfl) rfl _ _ 1 _ _ (cellsI [⟨⟨kd, n, t⟩, a1, c1, l⟩]) (by rfl) rfl (Sv.own_at S7.out 4 rfl).reads rfl (cellsI_one _) (by unfold maxLen; omega) (by omega) ?_; intro a2' c2' w4 hA)
          have S8 := Lib.hid (show Sl.Sep w _ [L4.boxR w.heap.size 26 #[.string name, .slice (some ad) N c, .int .i64 auto], Sv.ownV 43 4 a2' c2' (m + 1) (cellsI ys ++ (cellsI [⟨⟨kd, n, t⟩, a1, c1, l⟩])), Bag.bag (rowsI ys), Bag.bag ([(LI.mk ⟨kd, n, t⟩ a1 c1 l).row]), Sv.ownV 43 4 (some ⟨w3.heap.size, 0, none⟩) 1 1 (cellsI [⟨⟨kd, n, t⟩, a1, c1, l⟩])] from hA)
          clear S7
          clear hA
          clear f0 f1 f2 f3 f4 f5 f6
          have S9 := Lib.hid (show Sl.Sep w _ [L4.boxR w.heap.size 26 #[.string name, .slice (some ad) N c, .int .i64 auto], Sv.ownV 43 4 a2' c2' (m + 1) (cellsI ys ++ (cellsI [⟨⟨kd, n, t⟩, a1, c1, l⟩])), Bag.bag (rowsI ys ++ ([(LI.mk ⟨kd, n, t⟩ a1 c1 l).row])), Bag.bag ([]), Sv.ownV 43 4 (some ⟨w3.heap.size, 0, none⟩) 1 1 (cellsI [⟨⟨kd, n, t⟩, a1, c1, l⟩])] from Bag.bag_join S8.out 2 3 (by decide) rfl rfl)
          clear S8
          have S10 := Lib.hid (show Sl.Sep w _ [L4.boxR w.heap.size 26 #[.string name, .slice (some ad) N c, .int .i64 auto], Sv.ownV 43 4 a2' c2' (m + 1) (cellsI ys ++ (cellsI [⟨⟨kd, n, t⟩, a1, c1, l⟩])), Bag.bag (rowsI ys ++ ([(LI.mk ⟨kd, n, t⟩ a1 c1 l).row]))] from Bag.take S9.out [0, 1, 2] (by rfl) (by decide))
          clear S9
          go_roundw
          case rel =>
            refine ⟨k + 1, m + 1, a2', c2', ys ++ [⟨⟨kd, n, t⟩, a1, c1, l⟩], by omega, by go_num, rfl, by omega, And.intro ⟨?_, ?_⟩ ?_⟩
            · rw [List.length_append, ← HC.out.1]; rfl
            · rw [HT.out, conI_snoc, HC.out.2, he']; rfl
            · rw [cellsI_append, rowsI_append]; exact S10.out
          case measure => simp [intOf]; omega
        · have he' : (fn == q) = false := beq_no he
          go_wp2_with fail
          go_roundw
          case rel => exact ⟨k + 1, m, A, C, ys, by omega, by go_num, rfl, by omega, And.intro ⟨HC.out.1, by rw [HT.out, HC.out.2]; simp [he']⟩ S5.out⟩
          case measure => simp [intOf]; omega
    · skip
      have hh := Bag.cs3 S4.out 0 rfl
      have f0 := hh.1; have f1 := hh.2.1; have f2 := hh.2.2; clear hh
      go_wp2_with fail
      go_ret
      obtain rfl : k = N := by omega
      obtain ⟨hm, hc⟩ := HC.out
      rw [List.take_of_length_le (show (conI xs).length ≤ k by have := HN.out; simp; omega)] at hc
      subst hm
      have S90 := Lib.hid (Bag.bag_of_one S4.out 1 (r := rowI A C ys) rfl)
      have S91 := Lib.hid (Bag.bag_join S90.out 1 2 (by decide) rfl rfl)
      exact ⟨A, C, ys, rfl, hc, Bag.bag_from S91.out 1 rfl, S91.out.old⟩
end Go.Proofs.Ytmnedjhfibmcnaa.L7

/-
  The contract of chapter 5's copyRecord of the program. Condition: at most 2^40 fields. (Written by my program gen_l5cp.py.)
-/
namespace Go.Proofs.Ytmnedjhfibmcnaa.L5
set_option maxRecDepth 100000
open L4 (boxR push_box box_at)
open Go.ChangeShapes Go.WideShapes Go.ChangeAt Go.RowKit Mem Sl Ex L2 Sv Bag Run
set_option linter.unusedVariables false
set_option linter.unusedSimpArgs false

set_option maxHeartbeats 1000000 in
theorem copyRecord_any (a : Option Addr) (c : Nat) (l : List F) (hl : l.length ≤ 1099511627776) (w : World) (hr : Reads w w.heap.size a (cellsF l)) :
    Calls Try.prog 130 #[.agg #[.slice a l.length c]] w fun e w' => ∃ a' c', e = .returned (.agg #[.slice a' l.length c']) ∧ OwnV w' w.heap.size 107 2 a' c' l.length (cellsF l) ∧ Below w.heap.size w w' := by
  obtain ⟨i0, hi, hz0, hz1, hz2⟩ := fieldInfo
  obtain ⟨n, hn⟩ : ∃ n, n = l.length := ⟨_, rfl⟩
  rw [← hn] at hl ⊢
  have HR := Lib.hid (fun w' (h : Below w.heap.size w w') => hr.below h)
  have HC := Lib.hid (show (cellsF l).length = Nat.min n n * 2 by rw [cellsF_length, hn, show Nat.min l.length l.length = l.length from Nat.min_self _])
  have HM := Lib.hid (show (madeCells (Value.agg #[.string ⟨#[]⟩, .int .i64 0]).cells (n * 2)).toList.length = (cellsF l).length by rw [cellsF_length, ← hn]; simp [madeCells])
  have HI := Lib.hid (And.intro hi (And.intro hz0 (And.intro hz1 hz2)))
  have hl' : (n : Int) ≤ 1099511627776 := by omega
  clear hn hr hi hz0 hz1 hz2
  have S1 := Lib.hid (show Sl.Sep w ((w.alloc (.cells #[.slice a n c] 41)).alloc (.cells #[.slice none 0 0] 41)) [L4.boxR w.heap.size 41 #[.slice a n c], L4.boxR (w.heap.size + 1) 41 #[.slice none 0 0]] from L4.push_box (L4.push_box (Sl.Sep.start w) 41 #[.slice a n c] (w.heap.size) (by simp)) 41 #[.slice none 0 0] (w.heap.size + 1) (by simp))
  obtain ⟨wa, hwa⟩ : ∃ u, u = ((w.alloc (.cells #[.slice a n c] 41)).alloc (.cells #[.slice none 0 0] 41)) := ⟨_, rfl⟩
  rw [← hwa] at S1
  go_enter Try.func130, Try.ntmps130
  go_upto_region 1 with fail
  rw [← hwa]
  clear hwa
  have f0 : World.cell? _ ⟨w.heap.size, 0, none⟩ = some (.slice a n c) := Bag.cell_at S1.out 0 rfl 0 rfl
  have f1 : World.cell? _ ⟨w.heap.size + 1, 0, none⟩ = some (.slice none 0 0) := Bag.cell_at S1.out 1 rfl 0 rfl
  go_upto_region 2 with (at_make; refine wpList_make_s S1.out rfl _ _ 39 rfl 107 i0 (.agg #[.string ⟨#[]⟩, .int .i64 0]) 2 Try.underlying39 HI.out.1 HI.out.2.1 HI.out.2.2.1 _ _ n rfl rfl (by rw [HI.out.2.2.2]; omega) (by unfold maxLen; omega) ?_; intro w1 S')
  clear f0 f1
  obtain ⟨g1, hg⟩ : ∃ g', g' = wa.heap.size := ⟨_, rfl⟩
  rw [← hg] at S' ⊢
  clear hg
  have S2 := Lib.hid (show Sl.Sep w _ [L4.boxR w.heap.size 41 #[.slice a n c], L4.boxR (w.heap.size + 1) 41 #[.slice none 0 0], Sv.ownV 107 2 (some ⟨g1, 0, none⟩) n n ((madeCells (Value.agg #[.string ⟨#[]⟩, .int .i64 0]).cells (n * 2)).toList)] from S')
  clear S1
  clear S'
  have f0 : World.cell? _ ⟨w.heap.size, 0, none⟩ = some (.slice a n c) := Bag.cell_at S2.out 0 rfl 0 rfl
  have f1 : World.cell? _ ⟨w.heap.size + 1, 0, none⟩ = some (.slice none 0 0) := Bag.cell_at S2.out 1 rfl 0 rfl
  have hcp := fun ty => run_copy_s (P := Try.prog) S2.out 2 rfl 39 39 ty i0 Try.underlying39 HI.out.1 HI.out.2.2.1 0 n n n c a (cellsF l) HC.out w.heap.size (HR.out _ S2.out.old) (by rw [HM.out]; omega) (cellsF_one l)
  obtain ⟨w2, hw⟩ : ∃ u, u = World.setCells w1 g1 0 (cellsF l) := ⟨_, rfl⟩
  rw [← hw] at hcp
  have HW := Lib.hid hw
  clear hw
  go_upto_region 3 with fail
  clear f0 f1
  have S3 := Lib.hid (show Sl.Sep w _ [L4.boxR w.heap.size 41 #[.slice a n c], L4.boxR (w.heap.size + 1) 41 #[.slice none 0 0], Sv.ownV 107 2 (some ⟨g1, 0, none⟩) n n (cellsF l)] from (by have h := Run.put_run S2.out 2 rfl 0 (cellsF l) (by rw [HM.out]; omega); rw [← HW.out, over_all _ _ HM.out] at h; exact h))
  clear S2
  clear hcp HW
  have f0 : World.cell? _ ⟨w.heap.size, 0, none⟩ = some (.slice a n c) := Bag.cell_at S3.out 0 rfl 0 rfl
  have f1 : World.cell? _ ⟨w.heap.size + 1, 0, none⟩ = some (.slice none 0 0) := Bag.cell_at S3.out 1 rfl 0 rfl
  have z0 := Bag.free_at S3.out 1 rfl 0
  go_wp2_with fail
  clear f0 f1 z0
  have S4 := Lib.hid (show Sl.Sep w _ [L4.boxR w.heap.size 41 #[.slice a n c], L4.boxR (w.heap.size + 1) 41 #[.slice (some ⟨g1, 0, none⟩) n n], Sv.ownV 107 2 (some ⟨g1, 0, none⟩) n n (cellsF l)] from L5.put_box5 (S3.out) 1 rfl 0 (.slice (some ⟨g1, 0, none⟩) n n))
  clear S3
  have f0 : World.cell? _ ⟨w.heap.size + 1, 0, none⟩ = some (.slice (some ⟨g1, 0, none⟩) n n) := Bag.cell_at S4.out 1 rfl 0 rfl
  refine bodyPost_ret (v := .agg #[.slice (some ⟨g1, 0, none⟩) n n]) (by simp [results, Try.results130, go_sem, *]) rfl ?_
  exact ⟨_, _, rfl, Sv.own_from S4.out 2 rfl, S4.out.old⟩
end Go.Proofs.Ytmnedjhfibmcnaa.L5

/-
  The contracts of chapter 6's functions of the program: copyItem, copyStore. Conditions: keys' texts of at most 2^40 bytes, at most 2^20 fields and items. (Written by my program gen_l6g.py.)
-/
namespace Go.Proofs.Ytmnedjhfibmcnaa.L6
set_option maxRecDepth 100000
open L4 (K isK cmpK R inR encU)
open L5 (F isR isN cellsF encR eqR Small)
open Go.ChangeShapes Go.WideShapes Go.ChangeAt Go.RowKit Mem Sl Ex L2 Sv Bag
set_option linter.unusedVariables false
set_option linter.unusedSimpArgs false

set_option maxHeartbeats 2000000 in
theorem copyItem_any (kd n : Int) (s : ByteArray) (a : Option Addr) (c : Nat) (l : List F) (hl : l.length ≤ 1048576) (w : World) (hr : Reads w w.heap.size a (cellsF l)) :
    Calls Try.prog 94 #[.agg #[.int .i64 kd, .int .i64 n, .string s, .slice a l.length c]] w (GaveI w ⟨⟨kd, n, s⟩, l⟩) := by
  have HC := Lib.hid (fun w' (h : Below w.heap.size w w') => L5.copyRecord_any a c l (by have := hl; omega) w' ((hr.below h).more h.size))
  obtain ⟨N, hN⟩ : ∃ n, n = l.length := ⟨_, rfl⟩
  rw [← hN] at HC ⊢
  have HN := Lib.hid hN
  clear hN hr hl
  have S1 := Lib.hid (show Sl.Sep w ((w.alloc (.cells #[.int .i64 kd, .int .i64 n, .string s, .slice a N c] 43)).alloc (.cells #[.int .i64 0, .int .i64 0, .string ⟨#[]⟩, .slice none 0 0] 43)) [L4.boxR w.heap.size 43 #[.int .i64 kd, .int .i64 n, .string s, .slice a N c], L4.boxR (w.heap.size + 1) 43 #[.int .i64 0, .int .i64 0, .string ⟨#[]⟩, .slice none 0 0]] from L4.push_box (L4.push_box (Sl.Sep.start w) 43 #[.int .i64 kd, .int .i64 n, .string s, .slice a N c] (w.heap.size) (by simp)) 43 #[.int .i64 0, .int .i64 0, .string ⟨#[]⟩, .slice none 0 0] (w.heap.size + 1) (by simp))
  obtain ⟨wa, hwa⟩ : ∃ u, u = ((w.alloc (.cells #[.int .i64 kd, .int .i64 n, .string s, .slice a N c] 43)).alloc (.cells #[.int .i64 0, .int .i64 0, .string ⟨#[]⟩, .slice none 0 0] 43)) := ⟨_, rfl⟩
  rw [← hwa] at S1
  go_enter Try.func94, Try.ntmps94
  go_upto_region 1 with fail
  rw [← hwa]
  clear hwa
  go_upto_region 1 with fail
  refine wp_region_held_drew (S := (fun w' => (World.cell? w' ⟨w.heap.size, 0, none⟩ = some (.int .i64 kd) ∧ World.cell? w' ⟨w.heap.size, 1, none⟩ = some (.int .i64 n) ∧ World.cell? w' ⟨w.heap.size, 2, none⟩ = some (.string s) ∧ World.cell? w' ⟨w.heap.size, 3, none⟩ = some (.slice a N c)))) (by kernel_rfl) (Bag.cs4 (Bag.drew1 S1.out) 0 rfl) (fun hS => ?_)
  have S2 := Lib.hid (show Sl.Sep w _ [L4.boxR w.heap.size 43 #[.int .i64 kd, .int .i64 n, .string s, .slice a N c], L4.boxR (w.heap.size + 1) 43 #[.int .i64 0, .int .i64 0, .string ⟨#[]⟩, .slice none 0 0]] from Bag.drew1 S1.out)
  clear S1
  generalize World.drew _ = w1 at hS S2 ⊢
  refine tk 0 rfl ?_
  try simp only [zp0, zp1, zp2, zp3, zp4]
  refine tk 1 rfl ?_
  try simp only [zp0, zp1, zp2, zp3, zp4]
  refine tk 2 rfl ?_
  try simp only [zp0, zp1, zp2, zp3, zp4]
  refine tk 3 rfl ?_
  try simp only [zp0, zp1, zp2, zp3, zp4]
  refine Reg.one_op (i := 4) rfl (by kernel_rfl) (fun K hK => ?_)
  go_simp
  go_at_call 130
  refine (HC.out _ S2.out.old).mono ?_
  rintro e w2 ⟨a1, c1, rfl, ho, hb⟩
  have S3 := Lib.hid (show Sl.Sep w _ [L4.boxR w.heap.size 43 #[.int .i64 kd, .int .i64 n, .string s, .slice a N c], L4.boxR (w.heap.size + 1) 43 #[.int .i64 0, .int .i64 0, .string ⟨#[]⟩, .slice none 0 0], Sv.ownV 107 2 a1 c1 N (cellsF l)] from Sv.push_own S2.out hb ho)
  clear S2
  clear hb ho
  go_wp2_with fail
  refine hK.out _ _ (Bag.cs4 S3.out 0 rfl) (fun hS => ?_)
  clear hK K
  try simp only [zp0, zp1, zp2, zp3, zp4]
  refine tk 5 rfl ?_
  try simp only [zp0, zp1, zp2, zp3, zp4]
  refine Reg.one_op (i := 6) rfl (by kernel_rfl) (fun K hK => ?_)
  have hh := Bag.cs4 S3.out 1 rfl
  have f0 := hh.1; have f1 := hh.2.1; have f2 := hh.2.2.1; have f3 := hh.2.2.2; clear hh
  have hh := Bag.fs4 S3.out 1 rfl
  have z0 := hh.1; have z1 := hh.2.1; have z2 := hh.2.2.1; have z3 := hh.2.2.2; clear hh
  go_simp
  clear f0 f1 f2 f3 z0 z1 z2 z3
  have S4 := Lib.hid (show Sl.Sep w _ [L4.boxR w.heap.size 43 #[.int .i64 kd, .int .i64 n, .string s, .slice a N c], L4.boxR (w.heap.size + 1) 43 #[.int .i64 kd, .int .i64 n, .string s, .slice a1 N c1], Sv.ownV 107 2 a1 c1 N (cellsF l)] from L5.put_box5 (L5.put_box5 (L5.put_box5 (L5.put_box5 (S3.out) 1 rfl 0 (.int .i64 kd)) 1 rfl 1 (.int .i64 n)) 1 rfl 2 (.string s)) 1 rfl 3 (.slice a1 N c1))
  clear S3
  refine hK.out _ _ (Bag.cs4 S4.out 0 rfl) (fun hS => ?_)
  clear hK K
  try simp only [zp0, zp1, zp2, zp3, zp4]
  refine wpAnyH_done (by kernel_rfl) ?_ _
  have hh := Bag.cs4 S4.out 0 rfl
  have f0 := hh.1; have f1 := hh.2.1; have f2 := hh.2.2.1; have f3 := hh.2.2.2; clear hh
  have hh := Bag.cs4 S4.out 1 rfl
  have f4 := hh.1; have f5 := hh.2.1; have f6 := hh.2.2.1; have f7 := hh.2.2.2; clear hh
  go_wp2_with fail
  refine bodyPost_ret (v := .agg #[.int .i64 kd, .int .i64 n, .string s, .slice a1 N c1]) (by simp [results, Try.results94, go_sem, *]) rfl ?_
  have hb := Bag.bag_from (Bag.bag_of_one S4.out 2 (r := (LI.mk ⟨kd, n, s⟩ a1 c1 l).row) (by show some _ = some _; rw [HN.out]; rfl)) 2 rfl
  exact ⟨a1, c1, by rw [HN.out], hb, S4.out.old⟩
end Go.Proofs.Ytmnedjhfibmcnaa.L6

/-
  The contracts of chapter 5's functions of the program that only read: IsName, GetField, copyRecord. Conditions: a name of at most 2^48 bytes, a record of at most 2^40 fields.
-/
namespace Go.Proofs.Ytmnedjhfibmcnaa.L5
set_option maxRecDepth 100000
open Go.Op (bytesLess)
open Go.ChangeShapes Go.WideShapes Go.ChangeAt Go.RowKit Mem Sl Ex L2 Sv
set_option linter.unusedVariables false

set_option maxHeartbeats 1000000 in
theorem getField_any (a : Option Addr) (c : Nat) (l : List F) (s : ByteArray) (hl : l.length ≤ 1099511627776) (w : World) (hr : Reads w w.heap.size a (cellsF l)) :
    Calls Try.prog 82 #[.agg #[.slice a l.length c], .string s] w fun e w' => e = .returned (.tuple #[.int .i64 (getN l s.data.toList), .bool (getB l s.data.toList)]) ∧ Below w.heap.size w w' := by
  have HBL := Lib.hid (below_alloc (Below.refl w.heap.size w) (.cells #[.slice a l.length c] 41) (Nat.le_refl _))
  have HR := Lib.hid (fun w' (h : Below w.heap.size w w') => hr.below h)
  obtain ⟨n, hn⟩ : ∃ n, n = l.length := ⟨_, rfl⟩
  rw [← hn] at HBL ⊢
  rw [← hn] at hl
  have HN := Lib.hid hn
  clear hn hr
  have hl' : (n : Int) ≤ 1099511627776 := by omega
  go_enter Try.func82, Try.ntmps82
  go_wp2_with fail
  go_loopw [11] (fun i wr => ∃ k : Nat, k ≤ n ∧ i = .int .i64 k ∧ Hid (Below w.heap.size w wr ∧ ∀ j (hj : j < l.length), j < k → l[j].t ≠ s.data.toList)) (fun i _ => n - (intOf i).toNat)
  case atStart => exact ⟨0, Nat.zero_le _, rfl, HBL.out, fun j hj h => by omega⟩
  case round =>
    obtain ⟨k, hk, rfl, hrel⟩ := hrel
    by_cases hlt : (k : Int) < (n : Int)
    · have hkl : k < l.length := by have := HN.out; omega
      obtain ⟨ad, rfl, had, h1, h2⟩ := readsF (HR.out _ hrel.out.1) k hkl
      obtain ⟨t, ht⟩ : ∃ t, t = l[k].name := ⟨_, rfl⟩
      obtain ⟨m, hm⟩ : ∃ m, m = l[k].n := ⟨_, rfl⟩
      rw [← ht] at h1
      rw [← hm] at h2
      have HW := Lib.hid (below_alloc hrel.out.1 (.cells #[.string t, .int .i64 m] 107) (Nat.le_refl _))
      by_cases he : t.data.toList = s.data.toList
      · have heq : (t.toList == s.toList) = true := by rw [ByteArray.toList_eq, ByteArray.toList_eq, he, beq_self_eq_true]
        have HG := Lib.hid (getO_at k hkl (show l[k].t = s.data.toList by unfold F.t; rw [← ht]; exact he) hrel.out.2)
        rw [← hm] at HG
        clear ht hm he
        go_wp2_with fail
        go_ret2
        exact ⟨by unfold getN getB; rw [HG.out]; rfl, HW.out⟩
      · have heq : (t.toList == s.toList) = false := by rw [ByteArray.toList_eq, ByteArray.toList_eq, beq_eq_false_iff_ne]; exact he
        have HT := Lib.hid (show l[k].t ≠ s.data.toList by unfold F.t; rw [← ht]; exact he)
        clear ht hm he
        go_wp2_with fail
        go_roundw
        case rel => exact ⟨k + 1, by omega, by go_num, HW.out, fun j hj h => by
          by_cases e : j < k
          · exact hrel.out.2 j hj e
          · obtain rfl : j = k := by omega
            exact HT.out⟩
        case measure => simp [intOf]; omega
    · go_wp2_with fail
      go_ret2
      have HG := getO_none (l := l) (name := s.data.toList) (fun j hj => hrel.out.2 j hj (by have := HN.out; omega))
      exact ⟨by unfold getN getB; rw [HG]; rfl, hrel.out.1⟩
end Go.Proofs.Ytmnedjhfibmcnaa.L5

/-
  The contracts of the program's closures over items, itemsWhere, numberIn, cmp.Compare, cmp.Or. Conditions: keys' texts of at most 2^40 bytes, at most 2^20 fields and items. (Written by my program gen_l7f.py.)
-/
namespace Go.Proofs.Ytmnedjhfibmcnaa.L7
set_option maxRecDepth 100000
open L4 (K isK cmpK R inR encU)
open L5 (F isR isN cellsF encR eqR Small getO getN getB)
open L6
open Go.ChangeShapes Go.WideShapes Go.ChangeAt Go.RowKit Mem Sl Ex L2 Sv Bag
set_option linter.unusedVariables false
set_option linter.unusedSimpArgs false

theorem filt_take {f : It → Bool} {xs : List It} {k : Nat} {x : It} (h : xs[k]? = some x) : (xs.take (k + 1)).filter f = (xs.take k).filter f ++ (if f x then [x] else []) := by
  obtain ⟨hk, rfl⟩ := List.getElem?_eq_some_iff.1 h
  rw [List.take_succ_eq_append_getElem hk, List.filter_append]
  congr 1
  by_cases h1 : f xs[k] = true
  · simp [h1]
  · simp [h1]
def Tests2 (Fn g g2 : Nat) (f : It → Bool) (xs : List LI) (w : World) : Prop :=
  ∀ x ∈ xs, ∀ w', Below w.heap.size w w' → Calls Try.prog Fn #[.agg #[.int .i64 x.k.kind, .int .i64 x.k.n, .string x.k.text, .slice x.a x.l.length x.c], .pointer (some ⟨g, 0, none⟩), .pointer (some ⟨g2, 0, none⟩)] w' fun e w'' => e = .returned (.bool (f x.con)) ∧ Below w'.heap.size w' w''

set_option maxHeartbeats 8000000 in
theorem itemsWhereC_any (g g2 : Nat) (f : It → Bool) (y : LS) (hf : FitS y.con) (w : World) (hp : Tests2 90 g g2 f y.xs w) (hr : RowsRd w w.heap.size y.rows) :
    Calls Try.prog 66 #[y.v, .func (.func 90) #[] #[.pointer (some ⟨g, 0, none⟩), .pointer (some ⟨g2, 0, none⟩)]] w (GaveIs w (y.con.items.filter f)) := by
  obtain ⟨i0, hi1, hi2, hi3, hi4⟩ := itemInfo
  have HI := Lib.hid (And.intro hi1 (And.intro hi2 (And.intro hi3 hi4)))
  clear hi1 hi2 hi3 hi4
  have HP := Lib.hid hp
  clear hp
  obtain ⟨name, a, c, xs, auto⟩ := y
  have HR := Lib.hid (fun w' (h : Below w.heap.size w w') => LS.outer (hr.below h))
  have HX := Lib.hid (fun w' (h : Below w.heap.size w w') => (LS.inner (hr.below h)).more h.size)
  have HF := Lib.hid hf.items
  have HNM := Lib.hid hf.name
  have hl := hf.len
  simp only [LS.con, conI_length] at hl
  dsimp only [LS.con] at HR HX HF HNM
  try unfold LS.v LS.cells LS.con
  try dsimp only
  obtain ⟨N, hN⟩ : ∃ n, n = xs.length := ⟨_, rfl⟩
  rw [← hN] at hl ⊢
  have hl' : (N : Int) ≤ 1048576 := by omega
  have HN := Lib.hid hN
  clear hN hr hf
  have S1 := Lib.hid (show Sl.Sep w (w.alloc (.cells #[.string name, .slice a N c, .int .i64 auto] 26)) [L4.boxR w.heap.size 26 #[.string name, .slice a N c, .int .i64 auto]] from L4.push_box (Sl.Sep.start w) 26 #[.string name, .slice a N c, .int .i64 auto] (w.heap.size) (by simp))
  obtain ⟨wa, hwa⟩ : ∃ u, u = (w.alloc (.cells #[.string name, .slice a N c, .int .i64 auto] 26)) := ⟨_, rfl⟩
  rw [← hwa] at S1
  go_enter Try.func66, Try.ntmps66
  go_upto_region 1 with fail
  rw [← hwa]
  clear hwa
  go_upto_region 2 with fail
  have S2 := Lib.hid (show Sl.Sep w _ [L4.boxR w.heap.size 26 #[.string name, .slice a N c, .int .i64 auto], Sv.ownV 43 4 (some ⟨wa.heap.size, 0, none⟩) 0 0 (cellsI [])] from Sv.push_own S1.out ((Below.refl _ _).alloc (Nat.le_refl _) _) (OwnV.madeAt wa 43 4 0 wa.heap.size #[] rfl (Nat.le_refl _) rfl (by decide)))
  clear S1
  obtain ⟨g1, hg⟩ : ∃ g', g' = wa.heap.size := ⟨_, rfl⟩
  rw [← hg] at S2 ⊢
  clear hg
  generalize wa.alloc (.cells #[] 43) = w1 at S2 ⊢
  have S3 := Lib.hid (show Sl.Sep w _ [L4.boxR w.heap.size 26 #[.string name, .slice a N c, .int .i64 auto], Sv.ownV 43 4 (some ⟨g1, 0, none⟩) 0 0 (cellsI []), Bag.bag (rowsI [])] from Bag.push_bag S2.out (Below.refl _ _) (Bag.BagOwn.nil _ _))
  clear S2
  have hh := Bag.cs3 S3.out 0 rfl
  have f0 := hh.1; have f1 := hh.2.1; have f2 := hh.2.2; clear hh
  go_wp2_with fail
  clear f0 f1 f2
  go_loopw [5, 12] (fun v i wr => ∃ (k m : Nat) (A : Option Addr) (C : Nat) (ys : List LI), k ≤ N ∧ i = .int .i64 k ∧ v = .slice A m C ∧ m ≤ k ∧ Hid ((m = ys.length ∧ conI ys = ((conI xs).take k).filter f) ∧ Sl.Sep w wr [L4.boxR w.heap.size 26 #[.string name, .slice a N c, .int .i64 auto], Sv.ownV 43 4 A C m (cellsI ys), Bag.bag (rowsI ys)])) (fun _ i _ => N - (intOf i).toNat)
  case atStart => exact ⟨0, 0, _, _, [], Nat.zero_le _, rfl, rfl, Nat.le_refl _, And.intro ⟨rfl, rfl⟩ S3.out⟩
  case round =>
    obtain ⟨k, m, A, C, ys, hk, rfl, rfl, hmk, hrel⟩ := hrel
    have HC := Lib.hid hrel.out.1
    have S4 := Lib.hid hrel.out.2
    clear hrel S3
    by_cases hlt : (k : Int) < (N : Int)
    · skip
      have hkl : k < xs.length := by have := HN.out; omega
      obtain ⟨ad, x, rfl, hx⟩ := readsI_some (HR.out _ S4.out.old) k hkl
      obtain ⟨⟨kd, n, t⟩, ia, ic, l⟩ := x
      have HK := Lib.hid (fun w' (h : Below w.heap.size w w') => readsI_at (HR.out _ h) k _ hx)
      try dsimp only at HK
      have HFI := Lib.hid (fit_at HF.out hx)
      try dsimp only [LI.con] at HFI
      have HCI := Lib.hid (fun w' (h : Below w.heap.size w w') => copyItem_any kd n t ia ic l HFI.out.len w' (((HX.out _ h).at_ (rowsI_mem hx)).reads))
      try dsimp only at HCI
      have HPX := fun w' (h : Below w.heap.size w w') => HP.out _ (List.mem_of_getElem? hx) w' h
      obtain ⟨b, hb⟩ : ∃ b, f (⟨⟨kd, n, t⟩, l⟩ : It) = b := ⟨_, rfl⟩
      unfold LI.con at HPX
      dsimp only at HPX
      rw [hb] at HPX
      replace HPX := Lib.hid HPX
      have HT := Lib.hid (filt_take (f := f) (show (conI xs)[k]? = some (⟨⟨kd, n, t⟩, l⟩ : It) from con_of hx))
      have HB := Lib.hid hb
      clear hx hb
      have hh := Bag.cs3 S4.out 0 rfl
      have f0 := hh.1; have f1 := hh.2.1; have f2 := hh.2.2; clear hh
      have hh := HK.out _ S4.out.old
      have f3 := hh.1; have f4 := hh.2.1; have f5 := hh.2.2.1; have f6 := hh.2.2.2; clear hh
      go_upto_region 5 with fail
      clear f0 f1 f2 f3 f4 f5 f6
      have S5 := Lib.hid (show Sl.Sep w _ [L4.boxR w.heap.size 26 #[.string name, .slice (some ad) N c, .int .i64 auto], Sv.ownV 43 4 A C m (cellsI ys), Bag.bag (rowsI ys), L4.boxR wr.heap.size 43 #[.int .i64 kd, .int .i64 n, .string t, .slice ia l.length ic]] from L4.push_box S4.out 43 #[.int .i64 kd, .int .i64 n, .string t, .slice ia l.length ic] wr.heap.size rfl)
      clear S4
      obtain ⟨g2, hg⟩ : ∃ g', g' = wr.heap.size := ⟨_, rfl⟩
      rw [← hg] at S5 ⊢
      clear hg
      generalize wr.alloc (.cells #[.int .i64 kd, .int .i64 n, .string t, .slice ia l.length ic] 43) = w2 at S5 ⊢
      have hh := Bag.cs3 S5.out 0 rfl
      have f0 := hh.1; have f1 := hh.2.1; have f2 := hh.2.2; clear hh
      have hh := Bag.cs4 S5.out 3 rfl
      have f3 := hh.1; have f4 := hh.2.1; have f5 := hh.2.2.1; have f6 := hh.2.2.2; clear hh
      have hh := HK.out _ S5.out.old
      have f7 := hh.1; have f8 := hh.2.1; have f9 := hh.2.2.1; have f10 := hh.2.2.2; clear hh
      go_wp2_with fail
      go_at_call 90
      refine (HPX.out _ S5.out.old).mono ?_
      rintro e w3 ⟨rfl, hb⟩
      clear f0 f1 f2 f3 f4 f5 f6 f7 f8 f9 f10
      have S6 := Lib.hid (S5.out.keep hb)
      clear S5
      clear hb
      have hh := Bag.cs3 S6.out 0 rfl
      have f0 := hh.1; have f1 := hh.2.1; have f2 := hh.2.2; clear hh
      have hh := Bag.cs4 S6.out 3 rfl
      have f3 := hh.1; have f4 := hh.2.1; have f5 := hh.2.2.1; have f6 := hh.2.2.2; clear hh
      have hh := HK.out _ S6.out.old
      have f7 := hh.1; have f8 := hh.2.1; have f9 := hh.2.2.1; have f10 := hh.2.2.2; clear hh
      cases b with
      | false =>
        clear f0 f1 f2 f3 f4 f5 f6 f7 f8 f9 f10
        have S7 := Lib.hid (show Sl.Sep w _ [L4.boxR w.heap.size 26 #[.string name, .slice (some ad) N c, .int .i64 auto], Sv.ownV 43 4 A C m (cellsI ys), Bag.bag (rowsI ys)] from Bag.take S6.out [0, 1, 2] (by rfl) (by decide))
        clear S6
        go_wp2_with fail
        go_roundw
        case rel => exact ⟨k + 1, m, A, C, ys, by omega, by go_num, rfl, by omega, And.intro ⟨HC.out.1, by rw [HT.out, HB.out, HC.out.2]; simp⟩ S7.out⟩
        case measure => simp [intOf]; omega
      | true =>
        go_wp2_with fail
        go_at_call 94
        refine (HCI.out _ S6.out.old).mono ?_
        rintro e w4 ⟨a1, c1, rfl, ho, hb⟩
        clear f0 f1 f2 f3 f4 f5 f6 f7 f8 f9 f10
        have S7 := Lib.hid (show Sl.Sep w _ [L4.boxR w.heap.size 26 #[.string name, .slice (some ad) N c, .int .i64 auto], Sv.ownV 43 4 A C m (cellsI ys), Bag.bag (rowsI ys), L4.boxR g2 43 #[.int .i64 kd, .int .i64 n, .string t, .slice ia l.length ic], Bag.bag ([(LI.mk ⟨kd, n, t⟩ a1 c1 l).row])] from Bag.push_bag S6.out hb ho)
        clear S6
        clear hb ho
        have hh := Bag.cs3 S7.out 0 rfl
        have f0 := hh.1; have f1 := hh.2.1; have f2 := hh.2.2; clear hh
        have hh := Bag.cs4 S7.out 3 rfl
        have f3 := hh.1; have f4 := hh.2.1; have f5 := hh.2.2.1; have f6 := hh.2.2.2; clear hh
        have hh := HK.out _ S7.out.old
        have f7 := hh.1; have f8 := hh.2.1; have f9 := hh.2.2.1; have f10 := hh.2.2.2; clear hh
        have S8 := Lib.hid (show Sl.Sep w _ [L4.boxR w.heap.size 26 #[.string name, .slice (some ad) N c, .int .i64 auto], Sv.ownV 43 4 A C m (cellsI ys), Bag.bag (rowsI ys), L4.boxR g2 43 #[.int .i64 kd, .int .i64 n, .string t, .slice ia l.length ic], Bag.bag ([(LI.mk ⟨kd, n, t⟩ a1 c1 l).row]), Sv.ownV 43 4 (some ⟨w4.heap.size, 0, none⟩) 1 1 (cellsI [⟨⟨kd, n, t⟩, a1, c1, l⟩])] from Sv.push_own S7.out ((Below.refl _ _).alloc (Nat.le_refl _) _) (OwnV.madeAt w4 43 4 1 w4.heap.size #[.int .i64 kd, .int .i64 n, .string t, .slice a1 l.length c1] rfl (Nat.le_refl _) rfl (by decide)))
        clear S7
        go_wp2_with (at_builtin; refine L5.wpList_append_v S8.out 1 rfl rfl _ _ 24 (by rfl) i0 (.agg #[.int .i64 0, .int .i64 0, .string ⟨#[]⟩, .slice none 0 0]) 56 Try.underlying24 HI.out.1 HI.out.2.1 HI.out.2.2.1 HI.out.2.2.2 rfl (by omega) _ (by rfl) rfl _ _ 1 _ _ (cellsI [⟨⟨kd, n, t⟩, a1, c1, l⟩]) (by rfl) rfl (Sv.own_at S8.out 5 rfl).reads rfl (cellsI_one _) (by unfold maxLen; omega) (by omega) ?_; intro a3' c3' w5 hA)
        have S9 := Lib.hid (show Sl.Sep w _ [L4.boxR w.heap.size 26 #[.string name, .slice (some ad) N c, .int .i64 auto], Sv.ownV 43 4 a3' c3' (m + 1) (cellsI ys ++ (cellsI [⟨⟨kd, n, t⟩, a1, c1, l⟩])), Bag.bag (rowsI ys), L4.boxR g2 43 #[.int .i64 kd, .int .i64 n, .string t, .slice ia l.length ic], Bag.bag ([(LI.mk ⟨kd, n, t⟩ a1 c1 l).row]), Sv.ownV 43 4 (some ⟨w4.heap.size, 0, none⟩) 1 1 (cellsI [⟨⟨kd, n, t⟩, a1, c1, l⟩])] from hA)
        clear S8
        clear hA
        clear f0 f1 f2 f3 f4 f5 f6 f7 f8 f9 f10
        have S10 := Lib.hid (show Sl.Sep w _ [L4.boxR w.heap.size 26 #[.string name, .slice (some ad) N c, .int .i64 auto], Sv.ownV 43 4 a3' c3' (m + 1) (cellsI ys ++ (cellsI [⟨⟨kd, n, t⟩, a1, c1, l⟩])), Bag.bag (rowsI ys ++ ([(LI.mk ⟨kd, n, t⟩ a1 c1 l).row])), L4.boxR g2 43 #[.int .i64 kd, .int .i64 n, .string t, .slice ia l.length ic], Bag.bag ([]), Sv.ownV 43 4 (some ⟨w4.heap.size, 0, none⟩) 1 1 (cellsI [⟨⟨kd, n, t⟩, a1, c1, l⟩])] from Bag.bag_join S9.out 2 4 (by decide) rfl rfl)
        clear S9
        have S11 := Lib.hid (show Sl.Sep w _ [L4.boxR w.heap.size 26 #[.string name, .slice (some ad) N c, .int .i64 auto], Sv.ownV 43 4 a3' c3' (m + 1) (cellsI ys ++ (cellsI [⟨⟨kd, n, t⟩, a1, c1, l⟩])), Bag.bag (rowsI ys ++ ([(LI.mk ⟨kd, n, t⟩ a1 c1 l).row]))] from Bag.take S10.out [0, 1, 2] (by rfl) (by decide))
        clear S10
        go_roundw
        case rel =>
          refine ⟨k + 1, m + 1, a3', c3', ys ++ [⟨⟨kd, n, t⟩, a1, c1, l⟩], by omega, by go_num, rfl, by omega, And.intro ⟨?_, ?_⟩ ?_⟩
          · rw [List.length_append, ← HC.out.1]; rfl
          · rw [HT.out, HB.out, conI_snoc, HC.out.2]; rfl
          · rw [cellsI_append, rowsI_append]; exact S11.out
        case measure => simp [intOf]; omega
    · skip
      have hh := Bag.cs3 S4.out 0 rfl
      have f0 := hh.1; have f1 := hh.2.1; have f2 := hh.2.2; clear hh
      go_wp2_with fail
      go_ret
      obtain rfl : k = N := by omega
      obtain ⟨hm, hc⟩ := HC.out
      rw [List.take_of_length_le (show (conI xs).length ≤ k by have := HN.out; simp; omega)] at hc
      subst hm
      have S90 := Lib.hid (Bag.bag_of_one S4.out 1 (r := rowI A C ys) rfl)
      have S91 := Lib.hid (Bag.bag_join S90.out 1 2 (by decide) rfl rfl)
      exact ⟨A, C, ys, rfl, hc, Bag.bag_from S91.out 1 rfl, S91.out.old⟩
set_option maxHeartbeats 4000000 in
theorem itemsWith1_any (kd n : Int) (t : ByteArray) (ia : Option Addr) (ic : Nat) (l : List F) (f : ByteArray) (hl : l.length ≤ 1048576) (q : Int) (g g2 : Nat) (w : World) (hr : Reads w w.heap.size ia (cellsF l)) (hg : g < w.heap.size) (hg2 : g2 < w.heap.size) (h0 : w.cell? ⟨g, 0, none⟩ = some (.string f)) (h2 : w.cell? ⟨g2, 0, none⟩ = some (.int .i64 q)) :
    Calls Try.prog 90 #[.agg #[.int .i64 kd, .int .i64 n, .string t, .slice ia l.length ic], .pointer (some ⟨g, 0, none⟩), .pointer (some ⟨g2, 0, none⟩)] w fun e w' => e = .returned (.bool (hitI f.data.toList q ⟨⟨kd, n, t⟩, l⟩)) ∧ Below w.heap.size w w' := by
  have HGF := fun w' (h : Below w.heap.size w w') => L5.getField_any ia ic l f (by omega) w' ((hr.below h).more h.size)
  obtain ⟨fn, hfn⟩ : ∃ u, getN l f.data.toList = u := ⟨_, rfl⟩
  obtain ⟨fb, hfb⟩ : ∃ u, getB l f.data.toList = u := ⟨_, rfl⟩
  rw [hfn, hfb] at HGF
  replace HGF := Lib.hid HGF
  obtain ⟨N, hN⟩ : ∃ n, n = l.length := ⟨_, rfl⟩
  rw [← hN] at HGF ⊢
  clear hN hr
  have HBB := Lib.hid (And.intro hfn hfb)
  clear hfn hfb
  have HK := Lib.hid (fun w' (h : Below w.heap.size w w') => (h.cell (p := ⟨g, 0, none⟩) hg).trans h0)
  have HK2 := Lib.hid (fun w' (h : Below w.heap.size w w') => (h.cell (p := ⟨g2, 0, none⟩) hg2).trans h2)
  clear h0 h2
  have S1 := Lib.hid (show Sl.Sep w (w.alloc (.cells #[.int .i64 kd, .int .i64 n, .string t, .slice ia N ic] 43)) [L4.boxR w.heap.size 43 #[.int .i64 kd, .int .i64 n, .string t, .slice ia N ic]] from L4.push_box (Sl.Sep.start w) 43 #[.int .i64 kd, .int .i64 n, .string t, .slice ia N ic] (w.heap.size) (by simp))
  obtain ⟨wa, hwa⟩ : ∃ u, u = (w.alloc (.cells #[.int .i64 kd, .int .i64 n, .string t, .slice ia N ic] 43)) := ⟨_, rfl⟩
  rw [← hwa] at S1
  go_enter Try.func90, Try.ntmps90
  go_upto_region 1 with fail
  rw [← hwa]
  clear hwa
  have hh := Bag.cs4 S1.out 0 rfl
  have f0 := hh.1; have f1 := hh.2.1; have f2 := hh.2.2.1; have f3 := hh.2.2.2; clear hh
  have f4 : World.cell? _ ⟨g, 0, none⟩ = some (.string f) := (And.intro (HK.out _ S1.out.old) trivial).1
  have f5 : World.cell? _ ⟨g2, 0, none⟩ = some (.int .i64 q) := (And.intro (HK2.out _ S1.out.old) trivial).1
  go_wp2_with fail
  go_at_call 82
  refine (HGF.out _ S1.out.old).mono ?_
  rintro e w1 ⟨rfl, hb⟩
  clear f0 f1 f2 f3 f4 f5
  have S2 := Lib.hid (S1.out.keep hb)
  clear S1
  clear hb
  have hh := Bag.cs4 S2.out 0 rfl
  have f0 := hh.1; have f1 := hh.2.1; have f2 := hh.2.2.1; have f3 := hh.2.2.2; clear hh
  have f4 : World.cell? _ ⟨g, 0, none⟩ = some (.string f) := (And.intro (HK.out _ S2.out.old) trivial).1
  have f5 : World.cell? _ ⟨g2, 0, none⟩ = some (.int .i64 q) := (And.intro (HK2.out _ S2.out.old) trivial).1
  cases fb with
  | false =>
    go_wp2_with fail
    go_ret
    exact ⟨by unfold hitI; dsimp only; rw [HBB.out.1, HBB.out.2]; rfl, S2.out.old⟩
  | true =>
    by_cases he : fn = q
    · have he' : (fn == q) = true := by simp [he]
      go_wp2_with fail
      go_ret
      exact ⟨by unfold hitI; dsimp only; rw [HBB.out.1, HBB.out.2]; simp [he], S2.out.old⟩
    · have he' : (fn == q) = false := by simp [he]
      go_wp2_with fail
      go_ret
      exact ⟨by unfold hitI; dsimp only; rw [HBB.out.1, HBB.out.2]; simp [he], S2.out.old⟩
end Go.Proofs.Ytmnedjhfibmcnaa.L7

/-
  The contracts of the program's ItemsWith and CountWith. Conditions: keys' texts of at most 2^40 bytes, at most 2^20 fields and items. (Written by my program gen_l7g.py.)
-/
namespace Go.Proofs.Ytmnedjhfibmcnaa.L7
set_option maxRecDepth 100000
open L4 (K isK cmpK R inR encU)
open L5 (F isR isN cellsF encR eqR Small getO getN getB)
open L6
open Go.ChangeShapes Go.WideShapes Go.ChangeAt Go.RowKit Mem Sl Ex L2 Sv Bag
set_option linter.unusedVariables false
set_option linter.unusedSimpArgs false

theorem rowsI_mem' {xs : List LI} {x : LI} (h : x ∈ xs) : x.row ∈ rowsI xs := List.mem_map.2 ⟨x, h, rfl⟩
set_option maxHeartbeats 8000000 in
theorem itemsWith_any (y : LS) (f : ByteArray) (q : Int) (hf : FitS y.con) (w : World) (hr : RowsRd w w.heap.size y.rows) :
    Calls Try.prog 29 #[y.v, .string f, .int .i64 q] w (GaveIs w (withI y.con.items f.data.toList q)) := by
  have HF := Lib.hid hf.items
  have HRY := Lib.hid (fun w' (h : Below w.heap.size w w') => (hr.below h).more h.size)
  have HINN := Lib.hid (fun w' (h : Below w.heap.size w w') => ((LS.inner hr).below h).more h.size)
  have hmf : ∀ (fn : Fn) (first cap : Array Value) (w : World), (Instr.makeFunc fn first cap).run Try.prog w = .ok (.func fn first cap) w := fun _ _ _ _ => rfl
  have HFS := Lib.hid hf
  clear hr hf
  obtain ⟨name, a, c, xs, auto⟩ := y
  dsimp only [LS.v, LS.cells, LS.con] at HRY HF HINN HFS ⊢
  have S1 := Lib.hid (show Sl.Sep w (((w.alloc (.cells #[.string name, .slice a xs.length c, .int .i64 auto] 26)).alloc (.cells #[.string f] 9)).alloc (.cells #[.int .i64 q] 3)) [L4.boxR w.heap.size 26 #[.string name, .slice a xs.length c, .int .i64 auto], L4.boxR (w.heap.size + 1) 9 #[.string f], L4.boxR (w.heap.size + 1 + 1) 3 #[.int .i64 q]] from L4.push_box (L4.push_box (L4.push_box (Sl.Sep.start w) 26 #[.string name, .slice a xs.length c, .int .i64 auto] (w.heap.size) (by simp)) 9 #[.string f] (w.heap.size + 1) (by simp)) 3 #[.int .i64 q] (w.heap.size + 1 + 1) (by simp))
  obtain ⟨wa, hwa⟩ : ∃ u, u = (((w.alloc (.cells #[.string name, .slice a xs.length c, .int .i64 auto] 26)).alloc (.cells #[.string f] 9)).alloc (.cells #[.int .i64 q] 3)) := ⟨_, rfl⟩
  rw [← hwa] at S1
  go_enter Try.func29, Try.ntmps29
  go_upto_region 1 with fail
  rw [← hwa]
  clear hwa
  have HW := Lib.hid (itemsWhereC_any (w.heap.size + 1) (w.heap.size + 1 + 1) (hitI f.data.toList q) ⟨name, a, c, xs, auto⟩ HFS.out wa (fun x hx w' hb => by
    have c0 := (Below.cell hb (p := ⟨w.heap.size + 1, 0, none⟩) (S1.out.lies 1 _ rfl _ (by simp [L4.boxR])).2).trans (Bag.cell_at S1.out 1 rfl 0 rfl)
    have c1 := (Below.cell hb (p := ⟨w.heap.size + 1 + 1, 0, none⟩) (S1.out.lies 2 _ rfl _ (by simp [L4.boxR])).2).trans (Bag.cell_at S1.out 2 rfl 0 rfl)
    exact itemsWith1_any _ _ _ _ _ x.l f (HF.out _ (List.mem_map.2 ⟨x, hx, rfl⟩)).len q _ _ w' (((HINN.out w' (S1.out.old.trans (hb.mono S1.out.old.size))).at_ (rowsI_mem' hx)).reads) (Nat.lt_of_lt_of_le (S1.out.lies 1 _ rfl _ (by simp [L4.boxR])).2 hb.size) (Nat.lt_of_lt_of_le (S1.out.lies 2 _ rfl _ (by simp [L4.boxR])).2 hb.size) c0 c1) (HRY.out _ S1.out.old))
  dsimp only [LS.v, LS.cells, LS.con] at HW
  have hh := Bag.cs3 S1.out 0 rfl
  have f0 := hh.1; have f1 := hh.2.1; have f2 := hh.2.2; clear hh
  have f3 := Bag.cs1 S1.out 1 rfl
  have f4 := Bag.cs1 S1.out 2 rfl
  go_wp2_with fail
  go_at_call 66
  refine (HW.out).mono ?_
  rintro e w1 ⟨la, lc, ys, rfl, hys, ho, hb⟩
  clear f0 f1 f2 f3 f4
  have S2 := Lib.hid (show Sl.Sep w _ [L4.boxR w.heap.size 26 #[.string name, .slice a xs.length c, .int .i64 auto], L4.boxR (w.heap.size + 1) 9 #[.string f], L4.boxR (w.heap.size + 1 + 1) 3 #[.int .i64 q], Bag.bag (rowI la lc ys :: rowsI ys)] from Bag.push_bag S1.out hb ho)
  clear S1
  clear hb ho
  have hh := Bag.cs3 S2.out 0 rfl
  have f0 := hh.1; have f1 := hh.2.1; have f2 := hh.2.2; clear hh
  have f3 := Bag.cs1 S2.out 1 rfl
  have f4 := Bag.cs1 S2.out 2 rfl
  go_wp2_with fail
  go_ret
  exact ⟨la, lc, ys, rfl, hys, Bag.bag_from S2.out 3 rfl, S2.out.old⟩
end Go.Proofs.Ytmnedjhfibmcnaa.L7

