/-
  What the law FnIndexes needs, laid by my program lawpack.py, part 5: the texts L6Iw, L7Ia, RegA, L7Ib, L7Sa, L7Sb, L7Sd, L7Ic, one behind the other; each begins with its own words.
-/
import Derived.Test.YtmnedjhfibmcnaaFnIndexesP4
set_option linter.unusedSimpArgs false
/-
  The contracts of the program's closures over items, itemsWhere, numberIn, cmp.Compare, cmp.Or. Conditions: keys' texts of at most 2^40 bytes, at most 2^20 fields and items. (Written by my program gen_l7f.py.)
-/
namespace Go.Proofs.Ytmnedjhfibmcnaa.L7
set_option maxRecDepth 100000
open L4 (K isK cmpK R inR encU)
open L5 (F isR isN cellsF encR eqR Small getO getN getB)
open L6
open Go.ChangeShapes Go.WideShapes Go.ChangeAt Go.RowKit Mem Sl Ex L2 Sv Bag
set_option linter.unusedVariables false
set_option linter.unusedSimpArgs false

theorem filt_take {f : It → Bool} {xs : List It} {k : Nat} {x : It} (h : xs[k]? = some x) : (xs.take (k + 1)).filter f = (xs.take k).filter f ++ (if f x then [x] else []) := by
  obtain ⟨hk, rfl⟩ := List.getElem?_eq_some_iff.1 h
  rw [List.take_succ_eq_append_getElem hk, List.filter_append]
  congr 1
  by_cases h1 : f xs[k] = true
  · simp [h1]
  · simp [h1]
def Tests1 (Fn g : Nat) (f : It → Bool) (xs : List LI) (w : World) : Prop :=
  ∀ x ∈ xs, ∀ w', Below w.heap.size w w' → Calls Try.prog Fn #[.agg #[.int .i64 x.k.kind, .int .i64 x.k.n, .string x.k.text, .slice x.a x.l.length x.c], .pointer (some ⟨g, 0, none⟩)] w' fun e w'' => e = .returned (.bool (f x.con)) ∧ Below w'.heap.size w' w''
def Tests2 (Fn g g2 : Nat) (f : It → Bool) (xs : List LI) (w : World) : Prop :=
  ∀ x ∈ xs, ∀ w', Below w.heap.size w w' → Calls Try.prog Fn #[.agg #[.int .i64 x.k.kind, .int .i64 x.k.n, .string x.k.text, .slice x.a x.l.length x.c], .pointer (some ⟨g, 0, none⟩), .pointer (some ⟨g2, 0, none⟩)] w' fun e w'' => e = .returned (.bool (f x.con)) ∧ Below w'.heap.size w' w''

set_option maxHeartbeats 8000000 in
theorem itemsWhereB_any (g : Nat) (f : It → Bool) (y : LS) (hf : FitS y.con) (w : World) (hp : Tests1 81 g f y.xs w) (hr : RowsRd w w.heap.size y.rows) :
    Calls Try.prog 66 #[y.v, .func (.func 81) #[] #[.pointer (some ⟨g, 0, none⟩)]] w (GaveIs w (y.con.items.filter f)) := by
  obtain ⟨i0, hi1, hi2, hi3, hi4⟩ := itemInfo
  have HI := Lib.hid (And.intro hi1 (And.intro hi2 (And.intro hi3 hi4)))
  clear hi1 hi2 hi3 hi4
  have HP := Lib.hid hp
  clear hp
  obtain ⟨name, a, c, xs, auto⟩ := y
  have HR := Lib.hid (fun w' (h : Below w.heap.size w w') => LS.outer (hr.below h))
  have HX := Lib.hid (fun w' (h : Below w.heap.size w w') => (LS.inner (hr.below h)).more h.size)
  have HF := Lib.hid hf.items
  have HNM := Lib.hid hf.name
  have hl := hf.len
  simp only [LS.con, conI_length] at hl
  dsimp only [LS.con] at HR HX HF HNM
  try unfold LS.v LS.cells LS.con
  try dsimp only
  obtain ⟨N, hN⟩ : ∃ n, n = xs.length := ⟨_, rfl⟩
  rw [← hN] at hl ⊢
  have hl' : (N : Int) ≤ 1048576 := by omega
  have HN := Lib.hid hN
  clear hN hr hf
  have S1 := Lib.hid (show Sl.Sep w (w.alloc (.cells #[.string name, .slice a N c, .int .i64 auto] 26)) [L4.boxR w.heap.size 26 #[.string name, .slice a N c, .int .i64 auto]] from L4.push_box (Sl.Sep.start w) 26 #[.string name, .slice a N c, .int .i64 auto] (w.heap.size) (by simp))
  obtain ⟨wa, hwa⟩ : ∃ u, u = (w.alloc (.cells #[.string name, .slice a N c, .int .i64 auto] 26)) := ⟨_, rfl⟩
  rw [← hwa] at S1
  go_enter Try.func66, Try.ntmps66
  go_upto_region 1 with fail
  rw [← hwa]
  clear hwa
  go_upto_region 2 with fail
  have S2 := Lib.hid (show Sl.Sep w _ [L4.boxR w.heap.size 26 #[.string name, .slice a N c, .int .i64 auto], Sv.ownV 43 4 (some ⟨wa.heap.size, 0, none⟩) 0 0 (cellsI [])] from Sv.push_own S1.out ((Below.refl _ _).alloc (Nat.le_refl _) _) (OwnV.madeAt wa 43 4 0 wa.heap.size #[] rfl (Nat.le_refl _) rfl (by decide)))
  clear S1
  obtain ⟨g1, hg⟩ : ∃ g', g' = wa.heap.size := ⟨_, rfl⟩
  rw [← hg] at S2 ⊢
  clear hg
  generalize wa.alloc (.cells #[] 43) = w1 at S2 ⊢
  have S3 := Lib.hid (show Sl.Sep w _ [L4.boxR w.heap.size 26 #[.string name, .slice a N c, .int .i64 auto], Sv.ownV 43 4 (some ⟨g1, 0, none⟩) 0 0 (cellsI []), Bag.bag (rowsI [])] from Bag.push_bag S2.out (Below.refl _ _) (Bag.BagOwn.nil _ _))
  clear S2
  have hh := Bag.cs3 S3.out 0 rfl
  have f0 := hh.1; have f1 := hh.2.1; have f2 := hh.2.2; clear hh
  go_wp2_with fail
  clear f0 f1 f2
  go_loopw [5, 12] (fun v i wr => ∃ (k m : Nat) (A : Option Addr) (C : Nat) (ys : List LI), k ≤ N ∧ i = .int .i64 k ∧ v = .slice A m C ∧ m ≤ k ∧ Hid ((m = ys.length ∧ conI ys = ((conI xs).take k).filter f) ∧ Sl.Sep w wr [L4.boxR w.heap.size 26 #[.string name, .slice a N c, .int .i64 auto], Sv.ownV 43 4 A C m (cellsI ys), Bag.bag (rowsI ys)])) (fun _ i _ => N - (intOf i).toNat)
  case atStart => exact ⟨0, 0, _, _, [], Nat.zero_le _, rfl, rfl, Nat.le_refl _, And.intro ⟨rfl, rfl⟩ S3.out⟩
  case round =>
    obtain ⟨k, m, A, C, ys, hk, rfl, rfl, hmk, hrel⟩ := hrel
    have HC := Lib.hid hrel.out.1
    have S4 := Lib.hid hrel.out.2
    clear hrel S3
    by_cases hlt : (k : Int) < (N : Int)
    · skip
      have hkl : k < xs.length := by have := HN.out; omega
      obtain ⟨ad, x, rfl, hx⟩ := readsI_some (HR.out _ S4.out.old) k hkl
      obtain ⟨⟨kd, n, t⟩, ia, ic, l⟩ := x
      have HK := Lib.hid (fun w' (h : Below w.heap.size w w') => readsI_at (HR.out _ h) k _ hx)
      try dsimp only at HK
      have HFI := Lib.hid (fit_at HF.out hx)
      try dsimp only [LI.con] at HFI
      have HCI := Lib.hid (fun w' (h : Below w.heap.size w w') => copyItem_any kd n t ia ic l HFI.out.len w' (((HX.out _ h).at_ (rowsI_mem hx)).reads))
      try dsimp only at HCI
      have HPX := fun w' (h : Below w.heap.size w w') => HP.out _ (List.mem_of_getElem? hx) w' h
      obtain ⟨b, hb⟩ : ∃ b, f (⟨⟨kd, n, t⟩, l⟩ : It) = b := ⟨_, rfl⟩
      unfold LI.con at HPX
      dsimp only at HPX
      rw [hb] at HPX
      replace HPX := Lib.hid HPX
      have HT := Lib.hid (filt_take (f := f) (show (conI xs)[k]? = some (⟨⟨kd, n, t⟩, l⟩ : It) from con_of hx))
      have HB := Lib.hid hb
      clear hx hb
      have hh := Bag.cs3 S4.out 0 rfl
      have f0 := hh.1; have f1 := hh.2.1; have f2 := hh.2.2; clear hh
      have hh := HK.out _ S4.out.old
      have f3 := hh.1; have f4 := hh.2.1; have f5 := hh.2.2.1; have f6 := hh.2.2.2; clear hh
      go_upto_region 5 with fail
      clear f0 f1 f2 f3 f4 f5 f6
      have S5 := Lib.hid (show Sl.Sep w _ [L4.boxR w.heap.size 26 #[.string name, .slice (some ad) N c, .int .i64 auto], Sv.ownV 43 4 A C m (cellsI ys), Bag.bag (rowsI ys), L4.boxR wr.heap.size 43 #[.int .i64 kd, .int .i64 n, .string t, .slice ia l.length ic]] from L4.push_box S4.out 43 #[.int .i64 kd, .int .i64 n, .string t, .slice ia l.length ic] wr.heap.size rfl)
      clear S4
      obtain ⟨g2, hg⟩ : ∃ g', g' = wr.heap.size := ⟨_, rfl⟩
      rw [← hg] at S5 ⊢
      clear hg
      generalize wr.alloc (.cells #[.int .i64 kd, .int .i64 n, .string t, .slice ia l.length ic] 43) = w2 at S5 ⊢
      have hh := Bag.cs3 S5.out 0 rfl
      have f0 := hh.1; have f1 := hh.2.1; have f2 := hh.2.2; clear hh
      have hh := Bag.cs4 S5.out 3 rfl
      have f3 := hh.1; have f4 := hh.2.1; have f5 := hh.2.2.1; have f6 := hh.2.2.2; clear hh
      have hh := HK.out _ S5.out.old
      have f7 := hh.1; have f8 := hh.2.1; have f9 := hh.2.2.1; have f10 := hh.2.2.2; clear hh
      go_wp2_with fail
      go_at_call 81
      refine (HPX.out _ S5.out.old).mono ?_
      rintro e w3 ⟨rfl, hb⟩
      clear f0 f1 f2 f3 f4 f5 f6 f7 f8 f9 f10
      have S6 := Lib.hid (S5.out.keep hb)
      clear S5
      clear hb
      have hh := Bag.cs3 S6.out 0 rfl
      have f0 := hh.1; have f1 := hh.2.1; have f2 := hh.2.2; clear hh
      have hh := Bag.cs4 S6.out 3 rfl
      have f3 := hh.1; have f4 := hh.2.1; have f5 := hh.2.2.1; have f6 := hh.2.2.2; clear hh
      have hh := HK.out _ S6.out.old
      have f7 := hh.1; have f8 := hh.2.1; have f9 := hh.2.2.1; have f10 := hh.2.2.2; clear hh
      cases b with
      | false =>
        clear f0 f1 f2 f3 f4 f5 f6 f7 f8 f9 f10
        have S7 := Lib.hid (show Sl.Sep w _ [L4.boxR w.heap.size 26 #[.string name, .slice (some ad) N c, .int .i64 auto], Sv.ownV 43 4 A C m (cellsI ys), Bag.bag (rowsI ys)] from Bag.take S6.out [0, 1, 2] (by rfl) (by decide))
        clear S6
        go_wp2_with fail
        go_roundw
        case rel => exact ⟨k + 1, m, A, C, ys, by omega, by go_num, rfl, by omega, And.intro ⟨HC.out.1, by rw [HT.out, HB.out, HC.out.2]; simp⟩ S7.out⟩
        case measure => simp [intOf]; omega
      | true =>
        go_wp2_with fail
        go_at_call 94
        refine (HCI.out _ S6.out.old).mono ?_
        rintro e w4 ⟨a1, c1, rfl, ho, hb⟩
        clear f0 f1 f2 f3 f4 f5 f6 f7 f8 f9 f10
        have S7 := Lib.hid (show Sl.Sep w _ [L4.boxR w.heap.size 26 #[.string name, .slice (some ad) N c, .int .i64 auto], Sv.ownV 43 4 A C m (cellsI ys), Bag.bag (rowsI ys), L4.boxR g2 43 #[.int .i64 kd, .int .i64 n, .string t, .slice ia l.length ic], Bag.bag ([(LI.mk ⟨kd, n, t⟩ a1 c1 l).row])] from Bag.push_bag S6.out hb ho)
        clear S6
        clear hb ho
        have hh := Bag.cs3 S7.out 0 rfl
        have f0 := hh.1; have f1 := hh.2.1; have f2 := hh.2.2; clear hh
        have hh := Bag.cs4 S7.out 3 rfl
        have f3 := hh.1; have f4 := hh.2.1; have f5 := hh.2.2.1; have f6 := hh.2.2.2; clear hh
        have hh := HK.out _ S7.out.old
        have f7 := hh.1; have f8 := hh.2.1; have f9 := hh.2.2.1; have f10 := hh.2.2.2; clear hh
        have S8 := Lib.hid (show Sl.Sep w _ [L4.boxR w.heap.size 26 #[.string name, .slice (some ad) N c, .int .i64 auto], Sv.ownV 43 4 A C m (cellsI ys), Bag.bag (rowsI ys), L4.boxR g2 43 #[.int .i64 kd, .int .i64 n, .string t, .slice ia l.length ic], Bag.bag ([(LI.mk ⟨kd, n, t⟩ a1 c1 l).row]), Sv.ownV 43 4 (some ⟨w4.heap.size, 0, none⟩) 1 1 (cellsI [⟨⟨kd, n, t⟩, a1, c1, l⟩])] from Sv.push_own S7.out ((Below.refl _ _).alloc (Nat.le_refl _) _) (OwnV.madeAt w4 43 4 1 w4.heap.size #[.int .i64 kd, .int .i64 n, .string t, .slice a1 l.length c1] rfl (Nat.le_refl _) rfl (by decide)))
        clear S7
        go_wp2_with (at_builtin; refine L5.wpList_append_v S8.out 1 rfl rfl _ _ 24 (by rfl) i0 (.agg #[.int .i64 0, .int .i64 0, .string ⟨#[]⟩, .slice none 0 0]) 56 Try.underlying24 HI.out.1 HI.out.2.1 HI.out.2.2.1 HI.out.2.2.2 rfl (by omega) _ (by rfl) rfl _ _ 1 _ _ (cellsI [⟨⟨kd, n, t⟩, a1, c1, l⟩]) (by rfl) rfl (Sv.own_at S8.out 5 rfl).reads rfl (cellsI_one _) (by unfold maxLen; omega) (by omega) ?_; intro a3' c3' w5 hA)
        have S9 := Lib.hid (show Sl.Sep w _ [L4.boxR w.heap.size 26 #[.string name, .slice (some ad) N c, .int .i64 auto], Sv.ownV 43 4 a3' c3' (m + 1) (cellsI ys ++ (cellsI [⟨⟨kd, n, t⟩, a1, c1, l⟩])), Bag.bag (rowsI ys), L4.boxR g2 43 #[.int .i64 kd, .int .i64 n, .string t, .slice ia l.length ic], Bag.bag ([(LI.mk ⟨kd, n, t⟩ a1 c1 l).row]), Sv.ownV 43 4 (some ⟨w4.heap.size, 0, none⟩) 1 1 (cellsI [⟨⟨kd, n, t⟩, a1, c1, l⟩])] from hA)
        clear S8
        clear hA
        clear f0 f1 f2 f3 f4 f5 f6 f7 f8 f9 f10
        have S10 := Lib.hid (show Sl.Sep w _ [L4.boxR w.heap.size 26 #[.string name, .slice (some ad) N c, .int .i64 auto], Sv.ownV 43 4 a3' c3' (m + 1) (cellsI ys ++ (cellsI [⟨⟨kd, n, t⟩, a1, c1, l⟩])), Bag.bag (rowsI ys ++ ([(LI.mk ⟨kd, n, t⟩ a1 c1 l).row])), L4.boxR g2 43 #[.int .i64 kd, .int .i64 n, .string t, .slice ia l.length ic], Bag.bag ([]), Sv.ownV 43 4 (some ⟨w4.heap.size, 0, none⟩) 1 1 (cellsI [⟨⟨kd, n, t⟩, a1, c1, l⟩])] from Bag.bag_join S9.out 2 4 (by decide) rfl rfl)
        clear S9
        have S11 := Lib.hid (show Sl.Sep w _ [L4.boxR w.heap.size 26 #[.string name, .slice (some ad) N c, .int .i64 auto], Sv.ownV 43 4 a3' c3' (m + 1) (cellsI ys ++ (cellsI [⟨⟨kd, n, t⟩, a1, c1, l⟩])), Bag.bag (rowsI ys ++ ([(LI.mk ⟨kd, n, t⟩ a1 c1 l).row]))] from Bag.take S10.out [0, 1, 2] (by rfl) (by decide))
        clear S10
        go_roundw
        case rel =>
          refine ⟨k + 1, m + 1, a3', c3', ys ++ [⟨⟨kd, n, t⟩, a1, c1, l⟩], by omega, by go_num, rfl, by omega, And.intro ⟨?_, ?_⟩ ?_⟩
          · rw [List.length_append, ← HC.out.1]; rfl
          · rw [HT.out, HB.out, conI_snoc, HC.out.2]; rfl
          · rw [cellsI_append, rowsI_append]; exact S11.out
        case measure => simp [intOf]; omega
    · skip
      have hh := Bag.cs3 S4.out 0 rfl
      have f0 := hh.1; have f1 := hh.2.1; have f2 := hh.2.2; clear hh
      go_wp2_with fail
      go_ret
      obtain rfl : k = N := by omega
      obtain ⟨hm, hc⟩ := HC.out
      rw [List.take_of_length_le (show (conI xs).length ≤ k by have := HN.out; simp; omega)] at hc
      subst hm
      have S90 := Lib.hid (Bag.bag_of_one S4.out 1 (r := rowI A C ys) rfl)
      have S91 := Lib.hid (Bag.bag_join S90.out 1 2 (by decide) rfl rfl)
      exact ⟨A, C, ys, rfl, hc, Bag.bag_from S91.out 1 rfl, S91.out.old⟩
set_option maxHeartbeats 8000000 in
theorem itemsWhereC_any (g g2 : Nat) (f : It → Bool) (y : LS) (hf : FitS y.con) (w : World) (hp : Tests2 90 g g2 f y.xs w) (hr : RowsRd w w.heap.size y.rows) :
    Calls Try.prog 66 #[y.v, .func (.func 90) #[] #[.pointer (some ⟨g, 0, none⟩), .pointer (some ⟨g2, 0, none⟩)]] w (GaveIs w (y.con.items.filter f)) := by
  obtain ⟨i0, hi1, hi2, hi3, hi4⟩ := itemInfo
  have HI := Lib.hid (And.intro hi1 (And.intro hi2 (And.intro hi3 hi4)))
  clear hi1 hi2 hi3 hi4
  have HP := Lib.hid hp
  clear hp
  obtain ⟨name, a, c, xs, auto⟩ := y
  have HR := Lib.hid (fun w' (h : Below w.heap.size w w') => LS.outer (hr.below h))
  have HX := Lib.hid (fun w' (h : Below w.heap.size w w') => (LS.inner (hr.below h)).more h.size)
  have HF := Lib.hid hf.items
  have HNM := Lib.hid hf.name
  have hl := hf.len
  simp only [LS.con, conI_length] at hl
  dsimp only [LS.con] at HR HX HF HNM
  try unfold LS.v LS.cells LS.con
  try dsimp only
  obtain ⟨N, hN⟩ : ∃ n, n = xs.length := ⟨_, rfl⟩
  rw [← hN] at hl ⊢
  have hl' : (N : Int) ≤ 1048576 := by omega
  have HN := Lib.hid hN
  clear hN hr hf
  have S1 := Lib.hid (show Sl.Sep w (w.alloc (.cells #[.string name, .slice a N c, .int .i64 auto] 26)) [L4.boxR w.heap.size 26 #[.string name, .slice a N c, .int .i64 auto]] from L4.push_box (Sl.Sep.start w) 26 #[.string name, .slice a N c, .int .i64 auto] (w.heap.size) (by simp))
  obtain ⟨wa, hwa⟩ : ∃ u, u = (w.alloc (.cells #[.string name, .slice a N c, .int .i64 auto] 26)) := ⟨_, rfl⟩
  rw [← hwa] at S1
  go_enter Try.func66, Try.ntmps66
  go_upto_region 1 with fail
  rw [← hwa]
  clear hwa
  go_upto_region 2 with fail
  have S2 := Lib.hid (show Sl.Sep w _ [L4.boxR w.heap.size 26 #[.string name, .slice a N c, .int .i64 auto], Sv.ownV 43 4 (some ⟨wa.heap.size, 0, none⟩) 0 0 (cellsI [])] from Sv.push_own S1.out ((Below.refl _ _).alloc (Nat.le_refl _) _) (OwnV.madeAt wa 43 4 0 wa.heap.size #[] rfl (Nat.le_refl _) rfl (by decide)))
  clear S1
  obtain ⟨g1, hg⟩ : ∃ g', g' = wa.heap.size := ⟨_, rfl⟩
  rw [← hg] at S2 ⊢
  clear hg
  generalize wa.alloc (.cells #[] 43) = w1 at S2 ⊢
  have S3 := Lib.hid (show Sl.Sep w _ [L4.boxR w.heap.size 26 #[.string name, .slice a N c, .int .i64 auto], Sv.ownV 43 4 (some ⟨g1, 0, none⟩) 0 0 (cellsI []), Bag.bag (rowsI [])] from Bag.push_bag S2.out (Below.refl _ _) (Bag.BagOwn.nil _ _))
  clear S2
  have hh := Bag.cs3 S3.out 0 rfl
  have f0 := hh.1; have f1 := hh.2.1; have f2 := hh.2.2; clear hh
  go_wp2_with fail
  clear f0 f1 f2
  go_loopw [5, 12] (fun v i wr => ∃ (k m : Nat) (A : Option Addr) (C : Nat) (ys : List LI), k ≤ N ∧ i = .int .i64 k ∧ v = .slice A m C ∧ m ≤ k ∧ Hid ((m = ys.length ∧ conI ys = ((conI xs).take k).filter f) ∧ Sl.Sep w wr [L4.boxR w.heap.size 26 #[.string name, .slice a N c, .int .i64 auto], Sv.ownV 43 4 A C m (cellsI ys), Bag.bag (rowsI ys)])) (fun _ i _ => N - (intOf i).toNat)
  case atStart => exact ⟨0, 0, _, _, [], Nat.zero_le _, rfl, rfl, Nat.le_refl _, And.intro ⟨rfl, rfl⟩ S3.out⟩
  case round =>
    obtain ⟨k, m, A, C, ys, hk, rfl, rfl, hmk, hrel⟩ := hrel
    have HC := Lib.hid hrel.out.1
    have S4 := Lib.hid hrel.out.2
    clear hrel S3
    by_cases hlt : (k : Int) < (N : Int)
    · skip
      have hkl : k < xs.length := by have := HN.out; omega
      obtain ⟨ad, x, rfl, hx⟩ := readsI_some (HR.out _ S4.out.old) k hkl
      obtain ⟨⟨kd, n, t⟩, ia, ic, l⟩ := x
      have HK := Lib.hid (fun w' (h : Below w.heap.size w w') => readsI_at (HR.out _ h) k _ hx)
      try dsimp only at HK
      have HFI := Lib.hid (fit_at HF.out hx)
      try dsimp only [LI.con] at HFI
      have HCI := Lib.hid (fun w' (h : Below w.heap.size w w') => copyItem_any kd n t ia ic l HFI.out.len w' (((HX.out _ h).at_ (rowsI_mem hx)).reads))
      try dsimp only at HCI
      have HPX := fun w' (h : Below w.heap.size w w') => HP.out _ (List.mem_of_getElem? hx) w' h
      obtain ⟨b, hb⟩ : ∃ b, f (⟨⟨kd, n, t⟩, l⟩ : It) = b := ⟨_, rfl⟩
      unfold LI.con at HPX
      dsimp only at HPX
      rw [hb] at HPX
      replace HPX := Lib.hid HPX
      have HT := Lib.hid (filt_take (f := f) (show (conI xs)[k]? = some (⟨⟨kd, n, t⟩, l⟩ : It) from con_of hx))
      have HB := Lib.hid hb
      clear hx hb
      have hh := Bag.cs3 S4.out 0 rfl
      have f0 := hh.1; have f1 := hh.2.1; have f2 := hh.2.2; clear hh
      have hh := HK.out _ S4.out.old
      have f3 := hh.1; have f4 := hh.2.1; have f5 := hh.2.2.1; have f6 := hh.2.2.2; clear hh
      go_upto_region 5 with fail
      clear f0 f1 f2 f3 f4 f5 f6
      have S5 := Lib.hid (show Sl.Sep w _ [L4.boxR w.heap.size 26 #[.string name, .slice (some ad) N c, .int .i64 auto], Sv.ownV 43 4 A C m (cellsI ys), Bag.bag (rowsI ys), L4.boxR wr.heap.size 43 #[.int .i64 kd, .int .i64 n, .string t, .slice ia l.length ic]] from L4.push_box S4.out 43 #[.int .i64 kd, .int .i64 n, .string t, .slice ia l.length ic] wr.heap.size rfl)
      clear S4
      obtain ⟨g2, hg⟩ : ∃ g', g' = wr.heap.size := ⟨_, rfl⟩
      rw [← hg] at S5 ⊢
      clear hg
      generalize wr.alloc (.cells #[.int .i64 kd, .int .i64 n, .string t, .slice ia l.length ic] 43) = w2 at S5 ⊢
      have hh := Bag.cs3 S5.out 0 rfl
      have f0 := hh.1; have f1 := hh.2.1; have f2 := hh.2.2; clear hh
      have hh := Bag.cs4 S5.out 3 rfl
      have f3 := hh.1; have f4 := hh.2.1; have f5 := hh.2.2.1; have f6 := hh.2.2.2; clear hh
      have hh := HK.out _ S5.out.old
      have f7 := hh.1; have f8 := hh.2.1; have f9 := hh.2.2.1; have f10 := hh.2.2.2; clear hh
      go_wp2_with fail
      go_at_call 90
      refine (HPX.out _ S5.out.old).mono ?_
      rintro e w3 ⟨rfl, hb⟩
      clear f0 f1 f2 f3 f4 f5 f6 f7 f8 f9 f10
      have S6 := Lib.hid (S5.out.keep hb)
      clear S5
      clear hb
      have hh := Bag.cs3 S6.out 0 rfl
      have f0 := hh.1; have f1 := hh.2.1; have f2 := hh.2.2; clear hh
      have hh := Bag.cs4 S6.out 3 rfl
      have f3 := hh.1; have f4 := hh.2.1; have f5 := hh.2.2.1; have f6 := hh.2.2.2; clear hh
      have hh := HK.out _ S6.out.old
      have f7 := hh.1; have f8 := hh.2.1; have f9 := hh.2.2.1; have f10 := hh.2.2.2; clear hh
      cases b with
      | false =>
        clear f0 f1 f2 f3 f4 f5 f6 f7 f8 f9 f10
        have S7 := Lib.hid (show Sl.Sep w _ [L4.boxR w.heap.size 26 #[.string name, .slice (some ad) N c, .int .i64 auto], Sv.ownV 43 4 A C m (cellsI ys), Bag.bag (rowsI ys)] from Bag.take S6.out [0, 1, 2] (by rfl) (by decide))
        clear S6
        go_wp2_with fail
        go_roundw
        case rel => exact ⟨k + 1, m, A, C, ys, by omega, by go_num, rfl, by omega, And.intro ⟨HC.out.1, by rw [HT.out, HB.out, HC.out.2]; simp⟩ S7.out⟩
        case measure => simp [intOf]; omega
      | true =>
        go_wp2_with fail
        go_at_call 94
        refine (HCI.out _ S6.out.old).mono ?_
        rintro e w4 ⟨a1, c1, rfl, ho, hb⟩
        clear f0 f1 f2 f3 f4 f5 f6 f7 f8 f9 f10
        have S7 := Lib.hid (show Sl.Sep w _ [L4.boxR w.heap.size 26 #[.string name, .slice (some ad) N c, .int .i64 auto], Sv.ownV 43 4 A C m (cellsI ys), Bag.bag (rowsI ys), L4.boxR g2 43 #[.int .i64 kd, .int .i64 n, .string t, .slice ia l.length ic], Bag.bag ([(LI.mk ⟨kd, n, t⟩ a1 c1 l).row])] from Bag.push_bag S6.out hb ho)
        clear S6
        clear hb ho
        have hh := Bag.cs3 S7.out 0 rfl
        have f0 := hh.1; have f1 := hh.2.1; have f2 := hh.2.2; clear hh
        have hh := Bag.cs4 S7.out 3 rfl
        have f3 := hh.1; have f4 := hh.2.1; have f5 := hh.2.2.1; have f6 := hh.2.2.2; clear hh
        have hh := HK.out _ S7.out.old
        have f7 := hh.1; have f8 := hh.2.1; have f9 := hh.2.2.1; have f10 := hh.2.2.2; clear hh
        have S8 := Lib.hid (show Sl.Sep w _ [L4.boxR w.heap.size 26 #[.string name, .slice (some ad) N c, .int .i64 auto], Sv.ownV 43 4 A C m (cellsI ys), Bag.bag (rowsI ys), L4.boxR g2 43 #[.int .i64 kd, .int .i64 n, .string t, .slice ia l.length ic], Bag.bag ([(LI.mk ⟨kd, n, t⟩ a1 c1 l).row]), Sv.ownV 43 4 (some ⟨w4.heap.size, 0, none⟩) 1 1 (cellsI [⟨⟨kd, n, t⟩, a1, c1, l⟩])] from Sv.push_own S7.out ((Below.refl _ _).alloc (Nat.le_refl _) _) (OwnV.madeAt w4 43 4 1 w4.heap.size #[.int .i64 kd, .int .i64 n, .string t, .slice a1 l.length c1] rfl (Nat.le_refl _) rfl (by decide)))
        clear S7
        go_wp2_with (at_builtin; refine L5.wpList_append_v S8.out 1 rfl rfl _ _ 24 (by rfl) i0 (.agg #[.int .i64 0, .int .i64 0, .string ⟨#[]⟩, .slice none 0 0]) 56 Try.underlying24 HI.out.1 HI.out.2.1 HI.out.2.2.1 HI.out.2.2.2 rfl (by omega) _ (by rfl) rfl _ _ 1 _ _ (cellsI [⟨⟨kd, n, t⟩, a1, c1, l⟩]) (by rfl) rfl (Sv.own_at S8.out 5 rfl).reads rfl (cellsI_one _) (by unfold maxLen; omega) (by omega) ?_; intro a3' c3' w5 hA)
        have S9 := Lib.hid (show Sl.Sep w _ [L4.boxR w.heap.size 26 #[.string name, .slice (some ad) N c, .int .i64 auto], Sv.ownV 43 4 a3' c3' (m + 1) (cellsI ys ++ (cellsI [⟨⟨kd, n, t⟩, a1, c1, l⟩])), Bag.bag (rowsI ys), L4.boxR g2 43 #[.int .i64 kd, .int .i64 n, .string t, .slice ia l.length ic], Bag.bag ([(LI.mk ⟨kd, n, t⟩ a1 c1 l).row]), Sv.ownV 43 4 (some ⟨w4.heap.size, 0, none⟩) 1 1 (cellsI [⟨⟨kd, n, t⟩, a1, c1, l⟩])] from hA)
        clear S8
        clear hA
        clear f0 f1 f2 f3 f4 f5 f6 f7 f8 f9 f10
        have S10 := Lib.hid (show Sl.Sep w _ [L4.boxR w.heap.size 26 #[.string name, .slice (some ad) N c, .int .i64 auto], Sv.ownV 43 4 a3' c3' (m + 1) (cellsI ys ++ (cellsI [⟨⟨kd, n, t⟩, a1, c1, l⟩])), Bag.bag (rowsI ys ++ ([(LI.mk ⟨kd, n, t⟩ a1 c1 l).row])), L4.boxR g2 43 #[.int .i64 kd, .int .i64 n, .string t, .slice ia l.length ic], Bag.bag ([]), Sv.ownV 43 4 (some ⟨w4.heap.size, 0, none⟩) 1 1 (cellsI [⟨⟨kd, n, t⟩, a1, c1, l⟩])] from Bag.bag_join S9.out 2 4 (by decide) rfl rfl)
        clear S9
        have S11 := Lib.hid (show Sl.Sep w _ [L4.boxR w.heap.size 26 #[.string name, .slice (some ad) N c, .int .i64 auto], Sv.ownV 43 4 a3' c3' (m + 1) (cellsI ys ++ (cellsI [⟨⟨kd, n, t⟩, a1, c1, l⟩])), Bag.bag (rowsI ys ++ ([(LI.mk ⟨kd, n, t⟩ a1 c1 l).row]))] from Bag.take S10.out [0, 1, 2] (by rfl) (by decide))
        clear S10
        go_roundw
        case rel =>
          refine ⟨k + 1, m + 1, a3', c3', ys ++ [⟨⟨kd, n, t⟩, a1, c1, l⟩], by omega, by go_num, rfl, by omega, And.intro ⟨?_, ?_⟩ ?_⟩
          · rw [List.length_append, ← HC.out.1]; rfl
          · rw [HT.out, HB.out, conI_snoc, HC.out.2]; rfl
          · rw [cellsI_append, rowsI_append]; exact S11.out
        case measure => simp [intOf]; omega
    · skip
      have hh := Bag.cs3 S4.out 0 rfl
      have f0 := hh.1; have f1 := hh.2.1; have f2 := hh.2.2; clear hh
      go_wp2_with fail
      go_ret
      obtain rfl : k = N := by omega
      obtain ⟨hm, hc⟩ := HC.out
      rw [List.take_of_length_le (show (conI xs).length ≤ k by have := HN.out; simp; omega)] at hc
      subst hm
      have S90 := Lib.hid (Bag.bag_of_one S4.out 1 (r := rowI A C ys) rfl)
      have S91 := Lib.hid (Bag.bag_join S90.out 1 2 (by decide) rfl rfl)
      exact ⟨A, C, ys, rfl, hc, Bag.bag_from S91.out 1 rfl, S91.out.old⟩
set_option maxHeartbeats 4000000 in
theorem numberIn_any (kd n : Int) (t : ByteArray) (ia : Option Addr) (ic : Nat) (l : List F) (f : ByteArray) (hl : l.length ≤ 1048576) (w : World) (hr : Reads w w.heap.size ia (cellsF l)) :
    Calls Try.prog 87 #[.agg #[.int .i64 kd, .int .i64 n, .string t, .slice ia l.length ic], .string f] w fun e w' => e = .returned (.int .i64 (getN l f.data.toList)) ∧ Below w.heap.size w w' := by
  have HGF := fun w' (h : Below w.heap.size w w') => L5.getField_any ia ic l f (by omega) w' ((hr.below h).more h.size)
  obtain ⟨fn, hfn⟩ : ∃ u, getN l f.data.toList = u := ⟨_, rfl⟩
  obtain ⟨fb, hfb⟩ : ∃ u, getB l f.data.toList = u := ⟨_, rfl⟩
  rw [hfn, hfb] at HGF
  replace HGF := Lib.hid HGF
  obtain ⟨N, hN⟩ : ∃ n, n = l.length := ⟨_, rfl⟩
  rw [← hN] at HGF ⊢
  clear hN hr
  rw [hfn]
  clear hfn hfb
  have S1 := Lib.hid (show Sl.Sep w (w.alloc (.cells #[.int .i64 kd, .int .i64 n, .string t, .slice ia N ic] 43)) [L4.boxR w.heap.size 43 #[.int .i64 kd, .int .i64 n, .string t, .slice ia N ic]] from L4.push_box (Sl.Sep.start w) 43 #[.int .i64 kd, .int .i64 n, .string t, .slice ia N ic] (w.heap.size) (by simp))
  obtain ⟨wa, hwa⟩ : ∃ u, u = (w.alloc (.cells #[.int .i64 kd, .int .i64 n, .string t, .slice ia N ic] 43)) := ⟨_, rfl⟩
  rw [← hwa] at S1
  go_enter Try.func87, Try.ntmps87
  go_upto_region 1 with fail
  rw [← hwa]
  clear hwa
  have hh := Bag.cs4 S1.out 0 rfl
  have f0 := hh.1; have f1 := hh.2.1; have f2 := hh.2.2.1; have f3 := hh.2.2.2; clear hh
  go_wp2_with fail
  go_at_call 82
  refine (HGF.out _ S1.out.old).mono ?_
  rintro e w1 ⟨rfl, hb⟩
  clear f0 f1 f2 f3
  have S2 := Lib.hid (S1.out.keep hb)
  clear S1
  clear hb
  have hh := Bag.cs4 S2.out 0 rfl
  have f0 := hh.1; have f1 := hh.2.1; have f2 := hh.2.2.1; have f3 := hh.2.2.2; clear hh
  go_wp2_with fail
  go_ret
  exact ⟨rfl, S2.out.old⟩
set_option maxHeartbeats 4000000 in
theorem indexOn1_any (kd n : Int) (t : ByteArray) (ia : Option Addr) (ic : Nat) (l : List F) (f : ByteArray) (hl : l.length ≤ 1048576) (g : Nat) (w : World) (hr : Reads w w.heap.size ia (cellsF l)) (hg : g < w.heap.size) (h0 : w.cell? ⟨g, 0, none⟩ = some (.string f)) :
    Calls Try.prog 81 #[.agg #[.int .i64 kd, .int .i64 n, .string t, .slice ia l.length ic], .pointer (some ⟨g, 0, none⟩)] w fun e w' => e = .returned (.bool (getB l f.data.toList)) ∧ Below w.heap.size w w' := by
  have HGF := fun w' (h : Below w.heap.size w w') => L5.getField_any ia ic l f (by omega) w' ((hr.below h).more h.size)
  obtain ⟨fn, hfn⟩ : ∃ u, getN l f.data.toList = u := ⟨_, rfl⟩
  obtain ⟨fb, hfb⟩ : ∃ u, getB l f.data.toList = u := ⟨_, rfl⟩
  rw [hfn, hfb] at HGF
  replace HGF := Lib.hid HGF
  obtain ⟨N, hN⟩ : ∃ n, n = l.length := ⟨_, rfl⟩
  rw [← hN] at HGF ⊢
  clear hN hr
  rw [hfb]
  clear hfn hfb
  have HK := Lib.hid (fun w' (h : Below w.heap.size w w') => (h.cell (p := ⟨g, 0, none⟩) hg).trans h0)
  clear h0
  have S1 := Lib.hid (show Sl.Sep w (w.alloc (.cells #[.int .i64 kd, .int .i64 n, .string t, .slice ia N ic] 43)) [L4.boxR w.heap.size 43 #[.int .i64 kd, .int .i64 n, .string t, .slice ia N ic]] from L4.push_box (Sl.Sep.start w) 43 #[.int .i64 kd, .int .i64 n, .string t, .slice ia N ic] (w.heap.size) (by simp))
  obtain ⟨wa, hwa⟩ : ∃ u, u = (w.alloc (.cells #[.int .i64 kd, .int .i64 n, .string t, .slice ia N ic] 43)) := ⟨_, rfl⟩
  rw [← hwa] at S1
  go_enter Try.func81, Try.ntmps81
  go_upto_region 1 with fail
  rw [← hwa]
  clear hwa
  have hh := Bag.cs4 S1.out 0 rfl
  have f0 := hh.1; have f1 := hh.2.1; have f2 := hh.2.2.1; have f3 := hh.2.2.2; clear hh
  have f4 : World.cell? _ ⟨g, 0, none⟩ = some (.string f) := (And.intro (HK.out _ S1.out.old) trivial).1
  go_wp2_with fail
  go_at_call 82
  refine (HGF.out _ S1.out.old).mono ?_
  rintro e w1 ⟨rfl, hb⟩
  clear f0 f1 f2 f3 f4
  have S2 := Lib.hid (S1.out.keep hb)
  clear S1
  clear hb
  have hh := Bag.cs4 S2.out 0 rfl
  have f0 := hh.1; have f1 := hh.2.1; have f2 := hh.2.2.1; have f3 := hh.2.2.2; clear hh
  have f4 : World.cell? _ ⟨g, 0, none⟩ = some (.string f) := (And.intro (HK.out _ S2.out.old) trivial).1
  go_wp2_with fail
  go_ret
  exact ⟨rfl, S2.out.old⟩
set_option maxHeartbeats 4000000 in
theorem itemsWith1_any (kd n : Int) (t : ByteArray) (ia : Option Addr) (ic : Nat) (l : List F) (f : ByteArray) (hl : l.length ≤ 1048576) (q : Int) (g g2 : Nat) (w : World) (hr : Reads w w.heap.size ia (cellsF l)) (hg : g < w.heap.size) (hg2 : g2 < w.heap.size) (h0 : w.cell? ⟨g, 0, none⟩ = some (.string f)) (h2 : w.cell? ⟨g2, 0, none⟩ = some (.int .i64 q)) :
    Calls Try.prog 90 #[.agg #[.int .i64 kd, .int .i64 n, .string t, .slice ia l.length ic], .pointer (some ⟨g, 0, none⟩), .pointer (some ⟨g2, 0, none⟩)] w fun e w' => e = .returned (.bool (hitI f.data.toList q ⟨⟨kd, n, t⟩, l⟩)) ∧ Below w.heap.size w w' := by
  have HGF := fun w' (h : Below w.heap.size w w') => L5.getField_any ia ic l f (by omega) w' ((hr.below h).more h.size)
  obtain ⟨fn, hfn⟩ : ∃ u, getN l f.data.toList = u := ⟨_, rfl⟩
  obtain ⟨fb, hfb⟩ : ∃ u, getB l f.data.toList = u := ⟨_, rfl⟩
  rw [hfn, hfb] at HGF
  replace HGF := Lib.hid HGF
  obtain ⟨N, hN⟩ : ∃ n, n = l.length := ⟨_, rfl⟩
  rw [← hN] at HGF ⊢
  clear hN hr
  have HBB := Lib.hid (And.intro hfn hfb)
  clear hfn hfb
  have HK := Lib.hid (fun w' (h : Below w.heap.size w w') => (h.cell (p := ⟨g, 0, none⟩) hg).trans h0)
  have HK2 := Lib.hid (fun w' (h : Below w.heap.size w w') => (h.cell (p := ⟨g2, 0, none⟩) hg2).trans h2)
  clear h0 h2
  have S1 := Lib.hid (show Sl.Sep w (w.alloc (.cells #[.int .i64 kd, .int .i64 n, .string t, .slice ia N ic] 43)) [L4.boxR w.heap.size 43 #[.int .i64 kd, .int .i64 n, .string t, .slice ia N ic]] from L4.push_box (Sl.Sep.start w) 43 #[.int .i64 kd, .int .i64 n, .string t, .slice ia N ic] (w.heap.size) (by simp))
  obtain ⟨wa, hwa⟩ : ∃ u, u = (w.alloc (.cells #[.int .i64 kd, .int .i64 n, .string t, .slice ia N ic] 43)) := ⟨_, rfl⟩
  rw [← hwa] at S1
  go_enter Try.func90, Try.ntmps90
  go_upto_region 1 with fail
  rw [← hwa]
  clear hwa
  have hh := Bag.cs4 S1.out 0 rfl
  have f0 := hh.1; have f1 := hh.2.1; have f2 := hh.2.2.1; have f3 := hh.2.2.2; clear hh
  have f4 : World.cell? _ ⟨g, 0, none⟩ = some (.string f) := (And.intro (HK.out _ S1.out.old) trivial).1
  have f5 : World.cell? _ ⟨g2, 0, none⟩ = some (.int .i64 q) := (And.intro (HK2.out _ S1.out.old) trivial).1
  go_wp2_with fail
  go_at_call 82
  refine (HGF.out _ S1.out.old).mono ?_
  rintro e w1 ⟨rfl, hb⟩
  clear f0 f1 f2 f3 f4 f5
  have S2 := Lib.hid (S1.out.keep hb)
  clear S1
  clear hb
  have hh := Bag.cs4 S2.out 0 rfl
  have f0 := hh.1; have f1 := hh.2.1; have f2 := hh.2.2.1; have f3 := hh.2.2.2; clear hh
  have f4 : World.cell? _ ⟨g, 0, none⟩ = some (.string f) := (And.intro (HK.out _ S2.out.old) trivial).1
  have f5 : World.cell? _ ⟨g2, 0, none⟩ = some (.int .i64 q) := (And.intro (HK2.out _ S2.out.old) trivial).1
  cases fb with
  | false =>
    go_wp2_with fail
    go_ret
    exact ⟨by unfold hitI; dsimp only; rw [HBB.out.1, HBB.out.2]; rfl, S2.out.old⟩
  | true =>
    by_cases he : fn = q
    · have he' : (fn == q) = true := by simp [he]
      go_wp2_with fail
      go_ret
      exact ⟨by unfold hitI; dsimp only; rw [HBB.out.1, HBB.out.2]; simp [he], S2.out.old⟩
    · have he' : (fn == q) = false := by simp [he]
      go_wp2_with fail
      go_ret
      exact ⟨by unfold hitI; dsimp only; rw [HBB.out.1, HBB.out.2]; simp [he], S2.out.old⟩
def cmp3 (x y : Int) : Int := if x < y then -1 else if y < x then 1 else 0
theorem cmpInt3_any (x y : Int) (w : World) :
    Calls Try.prog 86 #[.int .i64 x, .int .i64 y] w fun e w' => e = .returned (.int .i64 (cmp3 x y)) ∧ w = w' := by
  have H := Lib.hid L4.isNaN_any
  rcases (show x < y ∨ (¬ x < y ∧ x > y) ∨ (¬ x < y ∧ ¬ x > y) by omega) with h | ⟨h, h2⟩ | ⟨h, h2⟩
  all_goals
    go_enter Try.func86, Try.ntmps86
    go_wp2_with (go_at_call 125; refine (H.out _ _).mono ?_; rintro e w1 ⟨rfl, rfl⟩)
    go_ret
    exact ⟨by unfold cmp3; simp_all <;> omega, rfl⟩
set_option maxHeartbeats 2000000 in
theorem cmpOr_any (g : Nat) (u v : Int) (w : World) (h0 : w.cell? ⟨g, 0, none⟩ = some (.int .i64 u)) (h1 : w.cell? ⟨g, 1, none⟩ = some (.int .i64 v)) :
    Calls Try.prog 85 #[.slice (some ⟨g, 0, none⟩) 2 2] w fun e w' => e = .returned (.int .i64 (if u = 0 then v else u)) ∧ w = w' := by
  by_cases hu : u = 0
  · by_cases hv : v = 0
    · go_enter Try.func85, Try.ntmps85
      go_wp2
      refine wp_loop_rounds 3 ?_
      iterate 3 (rw [rounds_succ]; go_wp2)
      go_ret
      exact ⟨by simp [hu, hv], rfl⟩
    · go_enter Try.func85, Try.ntmps85
      go_wp2
      refine wp_loop_rounds 3 ?_
      iterate 2 (rw [rounds_succ]; go_wp2)
      go_ret
      exact ⟨by simp [hu], rfl⟩
  · go_enter Try.func85, Try.ntmps85
    go_wp2
    refine wp_loop_rounds 3 ?_
    iterate 1 (rw [rounds_succ]; go_wp2)
    go_ret
    exact ⟨by simp [hu], rfl⟩
set_option maxHeartbeats 8000000 in
theorem indexOn2_any (d1 n1 d2 n2 : Int) (t1 t2 : ByteArray) (a1 a2 : Option Addr) (c1 c2 : Nat) (l1 l2 : List F) (f : ByteArray) (g : Nat) (ht1 : t1.size ≤ 1099511627776) (ht2 : t2.size ≤ 1099511627776) (hl1 : l1.length ≤ 1048576) (hl2 : l2.length ≤ 1048576) (w : World) (hr1 : Reads w w.heap.size a1 (cellsF l1)) (hr2 : Reads w w.heap.size a2 (cellsF l2)) (hg : g < w.heap.size) (h0 : w.cell? ⟨g, 0, none⟩ = some (.string f)) :
    Calls Try.prog 84 #[.agg #[.int .i64 d1, .int .i64 n1, .string t1, .slice a1 l1.length c1], .agg #[.int .i64 d2, .int .i64 n2, .string t2, .slice a2 l2.length c2], .pointer (some ⟨g, 0, none⟩)] w fun e w' => e = .returned (.bool (less7 f.data.toList ⟨⟨d1, n1, t1⟩, l1⟩ ⟨⟨d2, n2, t2⟩, l2⟩)) ∧ Below w.heap.size w w' := by
  have HR1 := fun w' (h : Below w.heap.size w w') => numberIn_any d1 n1 t1 a1 c1 l1 f hl1 w' ((hr1.below h).more h.size)
  have HR2 := fun w' (h : Below w.heap.size w w') => numberIn_any d2 n2 t2 a2 c2 l2 f hl2 w' ((hr2.below h).more h.size)
  have HCK := fun w => L4.implCompareKeys_any ⟨d1, n1, t1⟩ ⟨d2, n2, t2⟩ (by show t1.size ≤ _; omega) (by show t2.size ≤ _; omega) w
  obtain ⟨na, hna⟩ : ∃ u, getN l1 f.data.toList = u := ⟨_, rfl⟩
  obtain ⟨nb, hnb⟩ : ∃ u, getN l2 f.data.toList = u := ⟨_, rfl⟩
  obtain ⟨m, hm⟩ : ∃ u, cmpK ⟨d1, n1, t1⟩ ⟨d2, n2, t2⟩ = u := ⟨_, rfl⟩
  obtain ⟨cv, hcv⟩ : ∃ u, cmp3 na nb = u := ⟨_, rfl⟩
  obtain ⟨z, hz⟩ : ∃ u, (if cv = 0 then m else cv) = u := ⟨_, rfl⟩
  have HE : less7 f.data.toList ⟨⟨d1, n1, t1⟩, l1⟩ ⟨⟨d2, n2, t2⟩, l2⟩ = decide (z < 0) := by
    unfold less7; dsimp only; rw [hna, hnb, hm, ← hz, ← hcv]; unfold cmp3
    by_cases h1 : na < nb
    · simp [h1]
    · by_cases h2 : nb < na
      · have h3 : ¬ na = nb := by omega
        simp [h1, h2, h3]
      · have h3 : na = nb := by omega
        simp [h3]
  rw [HE]
  rw [hna] at HR1
  rw [hnb] at HR2
  rw [hm] at HCK
  replace HR1 := Lib.hid HR1
  replace HR2 := Lib.hid HR2
  replace HCK := Lib.hid HCK
  dsimp only [L4.K.v] at HCK
  have HC3 := fun w => cmpInt3_any na nb w
  rw [hcv] at HC3
  replace HC3 := Lib.hid HC3
  have HOR := fun g w h0 h1 => cmpOr_any g cv m w h0 h1
  rw [hz] at HOR
  replace HOR := Lib.hid HOR
  have HK := Lib.hid (fun w' (h : Below w.heap.size w w') => (h.cell (p := ⟨g, 0, none⟩) hg).trans h0)
  obtain ⟨N1, hN1⟩ : ∃ n, n = l1.length := ⟨_, rfl⟩
  obtain ⟨N2, hN2⟩ : ∃ n, n = l2.length := ⟨_, rfl⟩
  rw [← hN1] at HR1 ⊢
  rw [← hN2] at HR2 ⊢
  clear h0 hna hnb hm hcv hz HE hr1 hr2 hN1 hN2
  have S1 := Lib.hid (show Sl.Sep w ((w.alloc (.cells #[.int .i64 d1, .int .i64 n1, .string t1, .slice a1 N1 c1] 43)).alloc (.cells #[.int .i64 d2, .int .i64 n2, .string t2, .slice a2 N2 c2] 43)) [L4.boxR w.heap.size 43 #[.int .i64 d1, .int .i64 n1, .string t1, .slice a1 N1 c1], L4.boxR (w.heap.size + 1) 43 #[.int .i64 d2, .int .i64 n2, .string t2, .slice a2 N2 c2]] from L4.push_box (L4.push_box (Sl.Sep.start w) 43 #[.int .i64 d1, .int .i64 n1, .string t1, .slice a1 N1 c1] (w.heap.size) (by simp)) 43 #[.int .i64 d2, .int .i64 n2, .string t2, .slice a2 N2 c2] (w.heap.size + 1) (by simp))
  obtain ⟨wa, hwa⟩ : ∃ u, u = ((w.alloc (.cells #[.int .i64 d1, .int .i64 n1, .string t1, .slice a1 N1 c1] 43)).alloc (.cells #[.int .i64 d2, .int .i64 n2, .string t2, .slice a2 N2 c2] 43)) := ⟨_, rfl⟩
  rw [← hwa] at S1
  go_enter Try.func84, Try.ntmps84
  go_upto_region 1 with fail
  rw [← hwa]
  clear hwa
  have hh := Bag.cs4 S1.out 0 rfl
  have f0 := hh.1; have f1 := hh.2.1; have f2 := hh.2.2.1; have f3 := hh.2.2.2; clear hh
  have hh := Bag.cs4 S1.out 1 rfl
  have f4 := hh.1; have f5 := hh.2.1; have f6 := hh.2.2.1; have f7 := hh.2.2.2; clear hh
  have f8 : World.cell? _ ⟨g, 0, none⟩ = some (.string f) := (And.intro (HK.out _ S1.out.old) trivial).1
  clear f0 f1 f2 f3 f4 f5 f6 f7 f8
  refine wp_region_held_drew (S := (fun w' => (World.cell? w' ⟨w.heap.size, 0, none⟩ = some (.int .i64 d1) ∧ World.cell? w' ⟨w.heap.size, 1, none⟩ = some (.int .i64 n1) ∧ World.cell? w' ⟨w.heap.size, 2, none⟩ = some (.string t1) ∧ World.cell? w' ⟨w.heap.size, 3, none⟩ = some (.slice a1 N1 c1)) ∧ (World.cell? w' ⟨w.heap.size + 1, 0, none⟩ = some (.int .i64 d2) ∧ World.cell? w' ⟨w.heap.size + 1, 1, none⟩ = some (.int .i64 n2) ∧ World.cell? w' ⟨w.heap.size + 1, 2, none⟩ = some (.string t2) ∧ World.cell? w' ⟨w.heap.size + 1, 3, none⟩ = some (.slice a2 N2 c2)) ∧ World.cell? w' ⟨g, 0, none⟩ = some (.string f))) (by kernel_rfl) ⟨Bag.cs4 (Bag.drew1 S1.out) 0 rfl, Bag.cs4 (Bag.drew1 S1.out) 1 rfl, (And.intro (HK.out _ (Bag.drew1 S1.out).old) trivial).1⟩ (fun hS => ?_)
  have S2 := Lib.hid (show Sl.Sep w _ [L4.boxR w.heap.size 43 #[.int .i64 d1, .int .i64 n1, .string t1, .slice a1 N1 c1], L4.boxR (w.heap.size + 1) 43 #[.int .i64 d2, .int .i64 n2, .string t2, .slice a2 N2 c2]] from Bag.drew1 S1.out)
  clear S1
  generalize World.drew _ = w1 at hS S2 ⊢
  refine tk 0 rfl ?_
  try simp only [zp0, zp1, zp2, zp3, zp4]
  refine tk 1 rfl ?_
  try simp only [zp0, zp1, zp2, zp3, zp4]
  refine tk 3 rfl ?_
  try simp only [zp0, zp1, zp2, zp3, zp4]
  refine tk 4 rfl ?_
  try simp only [zp0, zp1, zp2, zp3, zp4]
  refine tk 7 rfl ?_
  try simp only [zp0, zp1, zp2, zp3, zp4]
  refine tk 8 rfl ?_
  try simp only [zp0, zp1, zp2, zp3, zp4]
  refine tk 9 rfl ?_
  try simp only [zp0, zp1, zp2, zp3, zp4]
  refine tk 10 rfl ?_
  try simp only [zp0, zp1, zp2, zp3, zp4]
  refine Reg.one_op (i := 2) rfl (by kernel_rfl) (fun K hK => ?_)
  go_simp
  go_at_call 87
  refine (HR1.out _ S2.out.old).mono ?_
  rintro e w2 ⟨rfl, hb⟩
  have S3 := Lib.hid (S2.out.keep hb)
  clear S2
  clear hb
  go_wp2_with fail
  refine hK.out _ _ ⟨Bag.cs4 S3.out 0 rfl, Bag.cs4 S3.out 1 rfl, (And.intro (HK.out _ S3.out.old) trivial).1⟩ (fun hS => ?_)
  clear hK K
  try simp only [zp0, zp1, zp2, zp3, zp4]
  refine Reg.one_op (i := 5) rfl (by kernel_rfl) (fun K hK => ?_)
  go_simp
  go_at_call 87
  refine (HR2.out _ S3.out.old).mono ?_
  rintro e w3 ⟨rfl, hb⟩
  have S4 := Lib.hid (S3.out.keep hb)
  clear S3
  clear hb
  go_wp2_with fail
  refine hK.out _ _ ⟨Bag.cs4 S4.out 0 rfl, Bag.cs4 S4.out 1 rfl, (And.intro (HK.out _ S4.out.old) trivial).1⟩ (fun hS => ?_)
  clear hK K
  try simp only [zp0, zp1, zp2, zp3, zp4]
  refine Reg.one_op (i := 6) rfl (by kernel_rfl) (fun K hK => ?_)
  go_simp
  go_at_call 86
  refine (HC3.out _).mono ?_
  rintro e w4 ⟨rfl, rfl⟩
  go_wp2_with fail
  refine hK.out _ _ ⟨Bag.cs4 S4.out 0 rfl, Bag.cs4 S4.out 1 rfl, (And.intro (HK.out _ S4.out.old) trivial).1⟩ (fun hS => ?_)
  clear hK K
  try simp only [zp0, zp1, zp2, zp3, zp4]
  refine Reg.one_op (i := 11) rfl (by kernel_rfl) (fun K hK => ?_)
  go_simp
  go_at_call 88
  refine (HCK.out _).mono ?_
  rintro e w5 ⟨rfl, hb⟩
  have S5 := Lib.hid (S4.out.keep hb)
  clear S4
  clear hb
  go_wp2_with fail
  refine hK.out _ _ ⟨Bag.cs4 S5.out 0 rfl, Bag.cs4 S5.out 1 rfl, (And.intro (HK.out _ S5.out.old) trivial).1⟩ (fun hS => ?_)
  clear hK K
  try simp only [zp0, zp1, zp2, zp3, zp4]
  refine Reg.one_op (i := 12) rfl (by kernel_rfl) (fun K hK => ?_)
  go_simp
  have S6 := Lib.hid (show Sl.Sep w _ [L4.boxR w.heap.size 43 #[.int .i64 d1, .int .i64 n1, .string t1, .slice a1 N1 c1], L4.boxR (w.heap.size + 1) 43 #[.int .i64 d2, .int .i64 n2, .string t2, .slice a2 N2 c2], L4.boxR w5.heap.size 3 #[.int .i64 cv, .int .i64 m]] from L4.push_box S5.out 3 #[.int .i64 cv, .int .i64 m] w5.heap.size rfl)
  clear S5
  obtain ⟨g1, hg⟩ : ∃ g', g' = w5.heap.size := ⟨_, rfl⟩
  rw [← hg] at S6 ⊢
  clear hg
  generalize w5.alloc (.cells #[.int .i64 cv, .int .i64 m] 3) = w6 at S6 ⊢
  refine hK.out _ _ ⟨Bag.cs4 S6.out 0 rfl, Bag.cs4 S6.out 1 rfl, (And.intro (HK.out _ S6.out.old) trivial).1⟩ (fun hS => ?_)
  clear hK K
  try simp only [zp0, zp1, zp2, zp3, zp4]
  refine Reg.one_op (i := 13) rfl (by kernel_rfl) (fun K hK => ?_)
  go_simp
  go_at_call 85
  refine (HOR.out _ _ (Bag.cell_at S6.out 2 rfl 0 rfl) (Bag.cell_at S6.out 2 rfl 1 rfl)).mono ?_
  rintro e w7 ⟨rfl, rfl⟩
  go_wp2_with fail
  refine hK.out _ _ ⟨Bag.cs4 S6.out 0 rfl, Bag.cs4 S6.out 1 rfl, (And.intro (HK.out _ S6.out.old) trivial).1⟩ (fun hS => ?_)
  clear hK K
  try simp only [zp0, zp1, zp2, zp3, zp4]
  refine tk 14 rfl ?_
  try simp only [zp0, zp1, zp2, zp3, zp4]
  refine tk 15 rfl ?_
  try simp only [zp0, zp1, zp2, zp3, zp4]
  refine wpAnyH_done (by kernel_rfl) ?_ _
  have hh := Bag.cs4 S6.out 0 rfl
  have f0 := hh.1; have f1 := hh.2.1; have f2 := hh.2.2.1; have f3 := hh.2.2.2; clear hh
  have hh := Bag.cs4 S6.out 1 rfl
  have f4 := hh.1; have f5 := hh.2.1; have f6 := hh.2.2.1; have f7 := hh.2.2.2; clear hh
  have hh := Bag.cs2 S6.out 2 rfl
  have f8 := hh.1; have f9 := hh.2; clear hh
  have f10 : World.cell? _ ⟨g, 0, none⟩ = some (.string f) := (And.intro (HK.out _ S6.out.old) trivial).1
  go_wp2_with fail
  go_ret
  exact ⟨rfl, S6.out.old⟩
end Go.Proofs.Ytmnedjhfibmcnaa.L7

/-
  The contracts of the program's ItemsWith and CountWith. Conditions: keys' texts of at most 2^40 bytes, at most 2^20 fields and items. (Written by my program gen_l7g.py.)
-/
namespace Go.Proofs.Ytmnedjhfibmcnaa.L7
set_option maxRecDepth 100000
open L4 (K isK cmpK R inR encU)
open L5 (F isR isN cellsF encR eqR Small getO getN getB)
open L6
open Go.ChangeShapes Go.WideShapes Go.ChangeAt Go.RowKit Mem Sl Ex L2 Sv Bag
set_option linter.unusedVariables false
set_option linter.unusedSimpArgs false

theorem rowsI_mem' {xs : List LI} {x : LI} (h : x ∈ xs) : x.row ∈ rowsI xs := List.mem_map.2 ⟨x, h, rfl⟩
set_option maxHeartbeats 8000000 in
theorem itemsWith_any (y : LS) (f : ByteArray) (q : Int) (hf : FitS y.con) (w : World) (hr : RowsRd w w.heap.size y.rows) :
    Calls Try.prog 29 #[y.v, .string f, .int .i64 q] w (GaveIs w (withI y.con.items f.data.toList q)) := by
  have HF := Lib.hid hf.items
  have HRY := Lib.hid (fun w' (h : Below w.heap.size w w') => (hr.below h).more h.size)
  have HINN := Lib.hid (fun w' (h : Below w.heap.size w w') => ((LS.inner hr).below h).more h.size)
  have hmf : ∀ (fn : Fn) (first cap : Array Value) (w : World), (Instr.makeFunc fn first cap).run Try.prog w = .ok (.func fn first cap) w := fun _ _ _ _ => rfl
  have HFS := Lib.hid hf
  clear hr hf
  obtain ⟨name, a, c, xs, auto⟩ := y
  dsimp only [LS.v, LS.cells, LS.con] at HRY HF HINN HFS ⊢
  have S1 := Lib.hid (show Sl.Sep w (((w.alloc (.cells #[.string name, .slice a xs.length c, .int .i64 auto] 26)).alloc (.cells #[.string f] 9)).alloc (.cells #[.int .i64 q] 3)) [L4.boxR w.heap.size 26 #[.string name, .slice a xs.length c, .int .i64 auto], L4.boxR (w.heap.size + 1) 9 #[.string f], L4.boxR (w.heap.size + 1 + 1) 3 #[.int .i64 q]] from L4.push_box (L4.push_box (L4.push_box (Sl.Sep.start w) 26 #[.string name, .slice a xs.length c, .int .i64 auto] (w.heap.size) (by simp)) 9 #[.string f] (w.heap.size + 1) (by simp)) 3 #[.int .i64 q] (w.heap.size + 1 + 1) (by simp))
  obtain ⟨wa, hwa⟩ : ∃ u, u = (((w.alloc (.cells #[.string name, .slice a xs.length c, .int .i64 auto] 26)).alloc (.cells #[.string f] 9)).alloc (.cells #[.int .i64 q] 3)) := ⟨_, rfl⟩
  rw [← hwa] at S1
  go_enter Try.func29, Try.ntmps29
  go_upto_region 1 with fail
  rw [← hwa]
  clear hwa
  have HW := Lib.hid (itemsWhereC_any (w.heap.size + 1) (w.heap.size + 1 + 1) (hitI f.data.toList q) ⟨name, a, c, xs, auto⟩ HFS.out wa (fun x hx w' hb => by
    have c0 := (Below.cell hb (p := ⟨w.heap.size + 1, 0, none⟩) (S1.out.lies 1 _ rfl _ (by simp [L4.boxR])).2).trans (Bag.cell_at S1.out 1 rfl 0 rfl)
    have c1 := (Below.cell hb (p := ⟨w.heap.size + 1 + 1, 0, none⟩) (S1.out.lies 2 _ rfl _ (by simp [L4.boxR])).2).trans (Bag.cell_at S1.out 2 rfl 0 rfl)
    exact itemsWith1_any _ _ _ _ _ x.l f (HF.out _ (List.mem_map.2 ⟨x, hx, rfl⟩)).len q _ _ w' (((HINN.out w' (S1.out.old.trans (hb.mono S1.out.old.size))).at_ (rowsI_mem' hx)).reads) (Nat.lt_of_lt_of_le (S1.out.lies 1 _ rfl _ (by simp [L4.boxR])).2 hb.size) (Nat.lt_of_lt_of_le (S1.out.lies 2 _ rfl _ (by simp [L4.boxR])).2 hb.size) c0 c1) (HRY.out _ S1.out.old))
  dsimp only [LS.v, LS.cells, LS.con] at HW
  have hh := Bag.cs3 S1.out 0 rfl
  have f0 := hh.1; have f1 := hh.2.1; have f2 := hh.2.2; clear hh
  have f3 := Bag.cs1 S1.out 1 rfl
  have f4 := Bag.cs1 S1.out 2 rfl
  go_wp2_with fail
  go_at_call 66
  refine (HW.out).mono ?_
  rintro e w1 ⟨la, lc, ys, rfl, hys, ho, hb⟩
  clear f0 f1 f2 f3 f4
  have S2 := Lib.hid (show Sl.Sep w _ [L4.boxR w.heap.size 26 #[.string name, .slice a xs.length c, .int .i64 auto], L4.boxR (w.heap.size + 1) 9 #[.string f], L4.boxR (w.heap.size + 1 + 1) 3 #[.int .i64 q], Bag.bag (rowI la lc ys :: rowsI ys)] from Bag.push_bag S1.out hb ho)
  clear S1
  clear hb ho
  have hh := Bag.cs3 S2.out 0 rfl
  have f0 := hh.1; have f1 := hh.2.1; have f2 := hh.2.2; clear hh
  have f3 := Bag.cs1 S2.out 1 rfl
  have f4 := Bag.cs1 S2.out 2 rfl
  go_wp2_with fail
  go_ret
  exact ⟨la, lc, ys, rfl, hys, Bag.bag_from S2.out 3 rfl, S2.out.old⟩
set_option maxHeartbeats 8000000 in
theorem countWith_any (y : LS) (f : ByteArray) (q : Int) (hf : FitS y.con) (w : World) (hr : RowsRd w w.heap.size y.rows) :
    Calls Try.prog 28 #[y.v, .string f, .int .i64 q] w fun e w' => e = .returned (.int .i64 (withI y.con.items f.data.toList q).length) ∧ Below w.heap.size w w' := by
  have HIW := Lib.hid (fun w' (h : Below w.heap.size w w') => itemsWith_any y f q hf w' ((hr.below h).more h.size))
  obtain ⟨name, a, c, xs, auto⟩ := y
  dsimp only [LS.v, LS.cells] at HIW ⊢
  have S1 := Lib.hid (show Sl.Sep w (w.alloc (.cells #[.string name, .slice a xs.length c, .int .i64 auto] 26)) [L4.boxR w.heap.size 26 #[.string name, .slice a xs.length c, .int .i64 auto]] from L4.push_box (Sl.Sep.start w) 26 #[.string name, .slice a xs.length c, .int .i64 auto] (w.heap.size) (by simp))
  obtain ⟨wa, hwa⟩ : ∃ u, u = (w.alloc (.cells #[.string name, .slice a xs.length c, .int .i64 auto] 26)) := ⟨_, rfl⟩
  rw [← hwa] at S1
  go_enter Try.func28, Try.ntmps28
  go_upto_region 1 with fail
  rw [← hwa]
  clear hwa
  have hh := Bag.cs3 S1.out 0 rfl
  have f0 := hh.1; have f1 := hh.2.1; have f2 := hh.2.2; clear hh
  go_wp2_with fail
  go_at_call 29
  refine (HIW.out _ S1.out.old).mono ?_
  rintro e w1 ⟨la, lc, ys, rfl, hys, ho, hb⟩
  clear f0 f1 f2
  have S2 := Lib.hid (show Sl.Sep w _ [L4.boxR w.heap.size 26 #[.string name, .slice a xs.length c, .int .i64 auto], Bag.bag (rowI la lc ys :: rowsI ys)] from Bag.push_bag S1.out hb ho)
  clear S1
  clear hb ho
  have hh := Bag.cs3 S2.out 0 rfl
  have f0 := hh.1; have f1 := hh.2.1; have f2 := hh.2.2; clear hh
  have HY := Lib.hid hys
  clear hys
  go_wp2_with fail
  go_ret
  exact ⟨by rw [← HY.out, conI_length]; rfl, S2.out.old⟩
end Go.Proofs.Ytmnedjhfibmcnaa.L7

/-
  A region that draws its order, some loads of which a store ends: a step that writes behind that store. No condition.
-/
namespace Go.Proofs.Ytmnedjhfibmcnaa.Reg
set_option maxRecDepth 100000
section
variable {P : Program} {l : List Oper} {Q : Exit → Act → World → Prop} {md : Region.Mode} {S0 S1 : World → Prop} {q fuel i : Nat} {oi : Oper} {v : Value} {listed : Array Bool} {a : Act} {w : World}
theorem after_op (hi : nthO i l = some oi) (hr : Region.ready md l.toArray listed = [i]) (hl : listed.getD q true = true)
    (h : ∀ K' : Act → World → Prop, Shut (∀ a w, S0 w → (S0 w → anyL P md l.toArray Q S0 S1 q fuel (listed.setIfInBounds i true) a w) → K' a w) → if Region.wanted oi (yielded l.toArray a.tmps) = true then Oper.wp P oi a w K' Q else K' (a.put oi.dst undef) w) :
    anyL P md l.toArray Q S0 S1 q (fuel + 1) listed a w := by
  refine ⟨fun h0 => (by rw [hr] at h0; cases h0), fun j hj => ?_⟩
  rw [hr] at hj
  obtain rfl := List.mem_singleton.1 hj
  exact wpOp_step (by rw [nthO_eq]; exact hi) (fun K' hK => h K' (fun a w h0 hW => hK a w ⟨⟨h0, fun _ hn => absurd (hl.symm.trans hn) (by decide)⟩, hW h0⟩))
end
end Go.Proofs.Ytmnedjhfibmcnaa.Reg

/-
  The contracts of the program's sortByInsertion and IndexOn. Conditions: keys' texts of at most 2^40 bytes, at most 2^20 fields and items. (Written by my program gen_l7g.py.)
-/
namespace Go.Proofs.Ytmnedjhfibmcnaa.L7
set_option maxRecDepth 100000
open L4 (K isK cmpK R inR encU)
open L5 (F isR isN cellsF encR eqR Small getO getN getB)
open L6
open Go.ChangeShapes Go.WideShapes Go.ChangeAt Go.RowKit Mem Sl Ex L2 Sv Bag
set_option linter.unusedVariables false
set_option linter.unusedSimpArgs false

def Prec (Fn gc g : Nat) (t : List UInt8) (ys : List LI) (w : World) : Prop :=
  ∀ a ∈ ys, ∀ b ∈ ys, ∀ w', Turned [g] w w' → Calls Try.prog Fn #[.agg #[.int .i64 a.k.kind, .int .i64 a.k.n, .string a.k.text, .slice a.a a.l.length a.c], .agg #[.int .i64 b.k.kind, .int .i64 b.k.n, .string b.k.text, .slice b.a b.l.length b.c], .pointer (some ⟨gc, 0, none⟩)] w' fun e w'' => e = .returned (.bool (less7 t a.con b.con)) ∧ Below w'.heap.size w' w''
theorem four_at {w : World} {B g : Nat} {zs : List LI} (h : Reads w B (some ⟨g, 0, none⟩) (cellsI zs)) (q : Nat) (x : LI) (hx : zs[q]? = some x) :
    w.cell? ⟨g, q * 4, none⟩ = some (.int .i64 x.k.kind) ∧ w.cell? ⟨g, q * 4 + 1, none⟩ = some (.int .i64 x.k.n) ∧ w.cell? ⟨g, q * 4 + 2, none⟩ = some (.string x.k.text) ∧ w.cell? ⟨g, q * 4 + 3, none⟩ = some (.slice x.a x.l.length x.c) := by
  have h2 := readsI_at h q x hx
  simp only [Addr.add_lit, Nat.zero_add] at h2
  exact h2
theorem cells_swap1 {srt R : List LI} {q : Nat} {y x : LI} (hy : srt[q]? = some y) : cellsI (srt.take (q + 1) ++ x :: (srt.drop (q + 1) ++ R)) = cellsI (srt.take q) ++ (cellsI [y] ++ (cellsI [x] ++ cellsI (srt.drop (q + 1) ++ R))) := by
  obtain ⟨hq, rfl⟩ := List.getElem?_eq_some_iff.1 hy
  rw [List.take_succ_eq_append_getElem hq, ← cellsI_append, ← cellsI_append, ← cellsI_append]
  congr 1
  simp only [List.append_assoc, List.singleton_append, List.cons_append, List.nil_append]
theorem cells_swap2 {srt R : List LI} {q : Nat} {y x : LI} (hy : srt[q]? = some y) : cellsI (srt.take q ++ x :: (srt.drop q ++ R)) = (cellsI (srt.take q) ++ cellsI [x]) ++ (cellsI [y] ++ cellsI (srt.drop (q + 1) ++ R)) := by
  obtain ⟨hq, rfl⟩ := List.getElem?_eq_some_iff.1 hy
  rw [List.drop_eq_getElem_cons hq, ← cellsI_append, ← cellsI_append, ← cellsI_append]
  congr 1
  simp only [List.append_assoc, List.singleton_append, List.cons_append, List.nil_append]
def srtI (t : List UInt8) (xs : List It) : List It := xs.foldl (insX t) []
theorem srtI_take {xs : List It} {t : List UInt8} {k : Nat} {x : It} (h : xs[k]? = some x) : srtI t (xs.take (k + 1)) = insX t (srtI t (xs.take k)) x := by
  obtain ⟨hk, rfl⟩ := List.getElem?_eq_some_iff.1 h
  unfold srtI
  rw [List.take_succ_eq_append_getElem hk, List.foldl_append]
  rfl
theorem idx_srt (xs : List It) (t : List UInt8) : idxI xs t = srtI t (xs.filter fun x => getB x.l t) := by
  unfold idxI srtI
  rw [List.foldl_filter]
  rfl
theorem conI_ins7 (srt : List LI) (x : LI) (j : Nat) : conI (srt.take j ++ x :: srt.drop j) = (conI srt).take j ++ x.con :: (conI srt).drop j := by
  simp [conI, List.map_take, List.map_drop]
theorem perm_ins (srt : List LI) (x : LI) (j : Nat) (R ys : List LI) (h : (srt ++ x :: R).Perm ys) : (srt.take j ++ x :: srt.drop j ++ R).Perm ys := by
  refine List.Perm.trans ?_ h
  have h1 : (srt.take j ++ x :: srt.drop j).Perm (x :: srt) := by
    have h2 := List.perm_middle (a := x) (l₁ := srt.take j) (l₂ := srt.drop j)
    rwa [List.take_append_drop] at h2
  have h3 : (srt ++ x :: R).Perm (x :: (srt ++ R)) := List.perm_middle
  exact (h1.append_right R).trans h3.symm

set_option maxHeartbeats 8000000 in
theorem sort_any (g gc c : Nat) (ft : List UInt8) (ys : List LI) (hl : ys.length ≤ 1048576) (W w : World) (S : Sl.Sep W w [Sv.ownV 43 4 (some ⟨g, 0, none⟩) c ys.length (cellsI ys), Run.restR W w g]) (hp : Prec 84 gc g ft ys w) :
    Calls Try.prog 83 #[.slice (some ⟨g, 0, none⟩) ys.length c, .func (.func 84) #[] #[.pointer (some ⟨gc, 0, none⟩)]] w fun e w' => ∃ zs, e = .returned (.tuple #[]) ∧ zs.Perm ys ∧ conI zs = srtI ft (conI ys) ∧ Sl.Sep W w' [Sv.ownV 43 4 (some ⟨g, 0, none⟩) c ys.length (cellsI zs), Run.restR W w g] := by
  obtain ⟨i0, hi1, hi2, hi3, hi4⟩ := itemInfo
  have HI := Lib.hid (And.intro hi1 (And.intro hi2 (And.intro hi3 hi4)))
  clear hi1 hi2 hi3 hi4
  have HB0 := Lib.hid S.old
  have HP := Lib.hid hp
  obtain ⟨N, hN⟩ : ∃ n, n = ys.length := ⟨_, rfl⟩
  rw [← hN] at S hl
  have hl' : (N : Int) ≤ 1048576 := by omega
  have HN := Lib.hid hN
  have HCN := Lib.hid (Sv.own_at S 0 rfl).cap
  rw [← hN]
  have S1 := Lib.hid S
  clear hN S hp
  go_enter Try.func83, Try.ntmps83
  go_wp2_with fail
  go_loopw [8] (fun i wr => ∃ (k : Nat) (srt : List LI), k ≤ N ∧ i = .int .i64 k ∧ Hid ((srt.length = k ∧ conI srt = srtI ft ((conI ys).take k) ∧ (srt ++ ys.drop k).Perm ys) ∧ Sl.Sep W wr [Sv.ownV 43 4 (some ⟨g, 0, none⟩) c N (cellsI (srt ++ ys.drop k)), Run.restR W w g])) (fun i _ => N - (intOf i).toNat)
  case atStart => exact ⟨0, [], Nat.zero_le _, rfl, And.intro ⟨rfl, rfl, List.Perm.refl _⟩ S1.out⟩
  case round =>
    obtain ⟨k, srt, hk, rfl, hrel⟩ := hrel
    have HC := Lib.hid hrel.out.1
    have S2 := Lib.hid hrel.out.2
    clear hrel S1
    by_cases hlt : (k : Int) < (N : Int)
    · skip
      have hkl : k < ys.length := by have := HN.out; omega
      obtain ⟨x, hx⟩ : ∃ x, x = ys[k] := ⟨_, rfl⟩
      have HX := Lib.hid (show ys[k]? = some x from by rw [hx]; exact List.getElem?_eq_getElem hkl)
      have HD := Lib.hid (show ys.drop k = x :: ys.drop (k + 1) from by rw [hx, List.drop_eq_getElem_cons hkl])
      have HMEM := Lib.hid (show x ∈ ys from by rw [hx]; exact List.getElem_mem hkl)
      have HXC := Lib.hid (show (conI ys)[k]? = some x.con from con_of HX.out)
      have HSL := Lib.hid HC.out.1
      have HPM := Lib.hid (show (srt ++ x :: ys.drop (k + 1)).Perm ys from by rw [← HD.out]; exact HC.out.2.2)
      have HSM := Lib.hid (fun y (h : y ∈ srt) => HPM.out.subset (List.mem_append_left _ h))
      clear hx
      obtain ⟨⟨kd, n, t⟩, ia, ic, l⟩ := x
      have S3 := Lib.hid (show Sl.Sep W _ [Sv.ownV 43 4 (some ⟨g, 0, none⟩) c N (cellsI (srt.take k ++ ⟨⟨kd, n, t⟩, ia, ic, l⟩ :: (srt.drop k ++ ys.drop (k + 1)))), Run.restR W w g] from (by have h := S2.out; rw [HD.out] at h; rw [List.take_of_length_le (Nat.le_of_eq HSL.out), List.drop_of_length_le (Nat.le_of_eq HSL.out)]; exact h))
      clear S2
      go_wp2_with fail
      go_loopw [5] (fun v wr2 => ∃ j : Nat, j ≤ k ∧ v = .int .i64 j ∧ Hid (backP ft (⟨⟨kd, n, t⟩, l⟩ : It) (conI srt) k = backP ft (⟨⟨kd, n, t⟩, l⟩ : It) (conI srt) j ∧ Sl.Sep W wr2 [Sv.ownV 43 4 (some ⟨g, 0, none⟩) c N (cellsI (srt.take j ++ ⟨⟨kd, n, t⟩, ia, ic, l⟩ :: (srt.drop j ++ ys.drop (k + 1)))), Run.restR W w g])) (fun v _ => (intOf v).toNat)
      case atStart => exact ⟨k, Nat.le_refl _, rfl, And.intro rfl S3.out⟩
      case round =>
        obtain ⟨j, hjk, rfl, hrel⟩ := hrel
        have HBP := Lib.hid hrel.out.1
        have S4 := Lib.hid hrel.out.2
        clear hrel S3
        by_cases hj0 : j = 0
        · subst hj0
          go_upto_region 4 with fail
          refine wp_region_held_drew (S := (fun w' => True)) (by kernel_rfl) trivial (fun hS => ?_)
          have S5 := Lib.hid (show Sl.Sep W _ [Sv.ownV 43 4 (some ⟨g, 0, none⟩) c N (cellsI (srt.take 0 ++ ⟨⟨kd, n, t⟩, ia, ic, l⟩ :: (srt.drop 0 ++ ys.drop (k + 1)))), Run.restR W w g] from Bag.drew1 S4.out)
          clear S4
          generalize World.drew _ = w1 at hS S5 ⊢
          refine tk 0 rfl ?_
          try simp only [zp0, zp1, zp2, zp3, zp4]
          refine tk 1 rfl ?_
          try simp only [zp0, zp1, zp2, zp3, zp4]
          refine tk 2 rfl ?_
          try simp only [zp0, zp1, zp2, zp3, zp4]
          refine sk 3 rfl ?_
          try simp only [zp0, zp1, zp2, zp3, zp4]
          refine sk 4 rfl ?_
          try simp only [zp0, zp1, zp2, zp3, zp4]
          refine sk 5 rfl ?_
          try simp only [zp0, zp1, zp2, zp3, zp4]
          refine sk 6 rfl ?_
          try simp only [zp0, zp1, zp2, zp3, zp4]
          refine sk 7 rfl ?_
          try simp only [zp0, zp1, zp2, zp3, zp4]
          refine sk 8 rfl ?_
          try simp only [zp0, zp1, zp2, zp3, zp4]
          refine sk 9 rfl ?_
          try simp only [zp0, zp1, zp2, zp3, zp4]
          refine sk 10 rfl ?_
          try simp only [zp0, zp1, zp2, zp3, zp4]
          refine sk 11 rfl ?_
          try simp only [zp0, zp1, zp2, zp3, zp4]
          refine sk 12 rfl ?_
          try simp only [zp0, zp1, zp2, zp3, zp4]
          refine Reg.skip_one (i := 13) rfl (by kernel_rfl) (by rfl) (by assumption) ?_
          try simp only [zp0, zp1, zp2, zp3, zp4]
          refine tk 14 rfl ?_
          try simp only [zp0, zp1, zp2, zp3, zp4]
          refine wpAnyH_done (by kernel_rfl) ?_ _
          have HBJ := Lib.hid (show backP ft (⟨⟨kd, n, t⟩, l⟩ : It) (conI srt) k = 0 from by rw [HBP.out]; rfl)
          go_wp2_with fail
          go_roundw
          case rel =>
            refine ⟨k + 1, srt.take 0 ++ ⟨⟨kd, n, t⟩, ia, ic, l⟩ :: srt.drop 0, by omega, by go_num, And.intro ⟨?_, ?_, ?_⟩ ?_⟩
            · have := HSL.out; simp only [List.length_append, List.length_cons, List.length_take, List.length_drop]; omega
            · rw [srtI_take HXC.out, ← HC.out.2.1, conI_ins7]; unfold insX; rw [conI_length, HSL.out, show backP ft (LI.con ⟨⟨kd, n, t⟩, ia, ic, l⟩) (conI srt) k = 0 from HBJ.out] <;> rfl
            · exact perm_ins srt _ _ _ _ HPM.out
            · rw [List.append_assoc, List.cons_append]; exact S5.out
          case measure => simp [intOf]; omega
        · skip
          obtain ⟨q, rfl⟩ : ∃ q, j = q + 1 := ⟨j - 1, by omega⟩
          have hqs : q < srt.length := by have := HSL.out; omega
          skip
          obtain ⟨y, hy⟩ : ∃ y, srt[q]? = some y := ⟨_, List.getElem?_eq_getElem hqs⟩
          obtain ⟨⟨kd2, n2, t2⟩, ia2, ic2, l2⟩ := y
          have HY := Lib.hid hy
          have HYC := Lib.hid (show (conI srt)[q]? = some (⟨⟨kd2, n2, t2⟩, l2⟩ : It) from con_of hy)
          have HYM := Lib.hid (HSM.out _ (List.mem_of_getElem? hy))
          have HL1 := Lib.hid (show (srt.take (q + 1) ++ ⟨⟨kd, n, t⟩, ia, ic, l⟩ :: (srt.drop (q + 1) ++ ys.drop (k + 1)))[q + 1]? = some ⟨⟨kd, n, t⟩, ia, ic, l⟩ from by rw [List.getElem?_append_right (by rw [List.length_take]; omega)]; rw [show q + 1 - (srt.take (q + 1)).length = 0 by rw [List.length_take]; omega]; rfl)
          have HL2 := Lib.hid (show (srt.take (q + 1) ++ ⟨⟨kd, n, t⟩, ia, ic, l⟩ :: (srt.drop (q + 1) ++ ys.drop (k + 1)))[q]? = some ⟨⟨kd2, n2, t2⟩, ia2, ic2, l2⟩ from by rw [List.getElem?_append_left (by rw [List.length_take]; omega), List.getElem?_take, if_pos (Nat.lt_succ_self q)]; exact hy)
          clear hy
          have hsub : ((q + 1 : Nat) : Int) - 1 = (q : Int) := by omega
          have hi0 : 0 < ((q + 1 : Nat) : Int) := by omega
          have hqN : (q : Int) < (N : Int) := by omega
          have hqN1 : (q : Int) + 1 < (N : Int) := by omega
          have hq1 : (0 : Int) ≤ (q : Int) + 1 := by omega
          have hwr : IntKind.i64.wrap (q : Int) = (q : Int) := IntWalk.i64_in _ ⟨by omega, by omega⟩
          obtain ⟨b, hb⟩ : ∃ b, less7 ft (⟨⟨kd, n, t⟩, l⟩ : It) ⟨⟨kd2, n2, t2⟩, l2⟩ = b := ⟨_, rfl⟩
          go_upto_region 4 with fail
          refine wp_region_held_drew (S := (fun w' => World.cell? w' ⟨g, (q + 1) * 4, none⟩ = some (.int .i64 kd) ∧ World.cell? w' ⟨g, (q + 1) * 4 + 1, none⟩ = some (.int .i64 n) ∧ World.cell? w' ⟨g, (q + 1) * 4 + 2, none⟩ = some (.string t) ∧ World.cell? w' ⟨g, (q + 1) * 4 + 3, none⟩ = some (.slice ia l.length ic) ∧ World.cell? w' ⟨g, q * 4, none⟩ = some (.int .i64 kd2) ∧ World.cell? w' ⟨g, q * 4 + 1, none⟩ = some (.int .i64 n2) ∧ World.cell? w' ⟨g, q * 4 + 2, none⟩ = some (.string t2) ∧ World.cell? w' ⟨g, q * 4 + 3, none⟩ = some (.slice ia2 l2.length ic2))) (by kernel_rfl) ⟨(four_at (Sv.own_at (Bag.drew1 S4.out) 0 rfl).reads _ _ HL1.out).1, (four_at (Sv.own_at (Bag.drew1 S4.out) 0 rfl).reads _ _ HL1.out).2.1, (four_at (Sv.own_at (Bag.drew1 S4.out) 0 rfl).reads _ _ HL1.out).2.2.1, (four_at (Sv.own_at (Bag.drew1 S4.out) 0 rfl).reads _ _ HL1.out).2.2.2, (four_at (Sv.own_at (Bag.drew1 S4.out) 0 rfl).reads _ _ HL2.out).1, (four_at (Sv.own_at (Bag.drew1 S4.out) 0 rfl).reads _ _ HL2.out).2.1, (four_at (Sv.own_at (Bag.drew1 S4.out) 0 rfl).reads _ _ HL2.out).2.2.1, (four_at (Sv.own_at (Bag.drew1 S4.out) 0 rfl).reads _ _ HL2.out).2.2.2⟩ (fun hS => ?_)
          have S5 := Lib.hid (show Sl.Sep W _ [Sv.ownV 43 4 (some ⟨g, 0, none⟩) c N (cellsI (srt.take (q + 1) ++ ⟨⟨kd, n, t⟩, ia, ic, l⟩ :: (srt.drop (q + 1) ++ ys.drop (k + 1)))), Run.restR W w g] from Bag.drew1 S4.out)
          clear S4
          generalize World.drew _ = w1 at hS S5 ⊢
          refine tk 0 rfl ?_
          try simp only [zp0, zp1, zp2, zp3, zp4]
          refine tk 1 rfl ?_
          try simp only [zp0, zp1, zp2, zp3, zp4]
          refine tk 2 rfl ?_
          try simp only [zp0, zp1, zp2, zp3, zp4]
          refine tk 3 rfl ?_
          try simp only [zp0, zp1, zp2, zp3, zp4]
          refine tk 4 rfl ?_
          try simp only [zp0, zp1, zp2, zp3, zp4]
          refine tk 5 rfl ?_
          try simp only [zp0, zp1, zp2, zp3, zp4]
          refine tk 6 rfl ?_
          try simp only [zp0, zp1, zp2, zp3, zp4]
          refine tk 7 rfl ?_
          try simp only [zp0, zp1, zp2, zp3, zp4]
          refine tk 8 rfl ?_
          try simp only [zp0, zp1, zp2, zp3, zp4]
          refine tk 9 rfl ?_
          try simp only [zp0, zp1, zp2, zp3, zp4]
          refine tk 10 rfl ?_
          try simp only [zp0, zp1, zp2, zp3, zp4]
          refine tk 11 rfl ?_
          try simp only [zp0, zp1, zp2, zp3, zp4]
          refine tk 12 rfl ?_
          try simp only [zp0, zp1, zp2, zp3, zp4]
          refine Reg.one_op (i := 13) rfl (by kernel_rfl) (fun K hK => ?_)
          have HLS := HP.out _ HMEM.out _ HYM.out w1 (Run.rest_turned HB0.out S5.out)
          unfold LI.con at HLS
          dsimp only at HLS
          rw [hb] at HLS
          go_simp
          go_at_call 84
          refine HLS.mono ?_
          clear HLS
          rintro e w2 ⟨rfl, hbw⟩
          have S6 := Lib.hid (S5.out.keep hbw)
          clear S5
          clear hbw
          go_wp2_with fail
          refine hK.out _ _ ⟨(four_at (Sv.own_at S6.out 0 rfl).reads _ _ HL1.out).1, (four_at (Sv.own_at S6.out 0 rfl).reads _ _ HL1.out).2.1, (four_at (Sv.own_at S6.out 0 rfl).reads _ _ HL1.out).2.2.1, (four_at (Sv.own_at S6.out 0 rfl).reads _ _ HL1.out).2.2.2, (four_at (Sv.own_at S6.out 0 rfl).reads _ _ HL2.out).1, (four_at (Sv.own_at S6.out 0 rfl).reads _ _ HL2.out).2.1, (four_at (Sv.own_at S6.out 0 rfl).reads _ _ HL2.out).2.2.1, (four_at (Sv.own_at S6.out 0 rfl).reads _ _ HL2.out).2.2.2⟩ (fun hS => ?_)
          clear hK K
          try simp only [zp0, zp1, zp2, zp3, zp4]
          refine tk 14 rfl ?_
          try simp only [zp0, zp1, zp2, zp3, zp4]
          refine wpAnyH_done (by kernel_rfl) ?_ _
          have f0 : World.cell? _ ⟨g, (q + 1) * 4, none⟩ = some (.int .i64 kd) := (four_at (Sv.own_at S6.out 0 rfl).reads _ _ HL1.out).1
          have f1 : World.cell? _ ⟨g, (q + 1) * 4 + 1, none⟩ = some (.int .i64 n) := (four_at (Sv.own_at S6.out 0 rfl).reads _ _ HL1.out).2.1
          have f2 : World.cell? _ ⟨g, (q + 1) * 4 + 2, none⟩ = some (.string t) := (four_at (Sv.own_at S6.out 0 rfl).reads _ _ HL1.out).2.2.1
          have f3 : World.cell? _ ⟨g, (q + 1) * 4 + 3, none⟩ = some (.slice ia l.length ic) := (four_at (Sv.own_at S6.out 0 rfl).reads _ _ HL1.out).2.2.2
          have f4 : World.cell? _ ⟨g, q * 4, none⟩ = some (.int .i64 kd2) := (four_at (Sv.own_at S6.out 0 rfl).reads _ _ HL2.out).1
          have f5 : World.cell? _ ⟨g, q * 4 + 1, none⟩ = some (.int .i64 n2) := (four_at (Sv.own_at S6.out 0 rfl).reads _ _ HL2.out).2.1
          have f6 : World.cell? _ ⟨g, q * 4 + 2, none⟩ = some (.string t2) := (four_at (Sv.own_at S6.out 0 rfl).reads _ _ HL2.out).2.2.1
          have f7 : World.cell? _ ⟨g, q * 4 + 3, none⟩ = some (.slice ia2 l2.length ic2) := (four_at (Sv.own_at S6.out 0 rfl).reads _ _ HL2.out).2.2.2
          cases b with
          | false =>
            have HBJ := Lib.hid (show backP ft (⟨⟨kd, n, t⟩, l⟩ : It) (conI srt) k = q + 1 from by rw [HBP.out]; exact backP_stop HYC.out hb)
            go_wp2_with fail
            go_roundw
            case rel =>
              refine ⟨k + 1, srt.take (q + 1) ++ ⟨⟨kd, n, t⟩, ia, ic, l⟩ :: srt.drop (q + 1), by omega, by go_num, And.intro ⟨?_, ?_, ?_⟩ ?_⟩
              · have := HSL.out; simp only [List.length_append, List.length_cons, List.length_take, List.length_drop]; omega
              · rw [srtI_take HXC.out, ← HC.out.2.1, conI_ins7]; unfold insX; rw [conI_length, HSL.out, show backP ft (LI.con ⟨⟨kd, n, t⟩, ia, ic, l⟩) (conI srt) k = q + 1 from HBJ.out] <;> rfl
              · exact perm_ins srt _ _ _ _ HPM.out
              · rw [List.append_assoc, List.cons_append]; exact S6.out
            case measure => simp [intOf]; omega
          | true =>
            go_upto_region 6 with fail
            clear f0 f1 f2 f3 f4 f5 f6 f7
            refine Reg.wp_region_late (fun w' => True) (fun w' => World.cell? w' ⟨g, (q + 1) * 4, none⟩ = some (.int .i64 kd) ∧ World.cell? w' ⟨g, (q + 1) * 4 + 1, none⟩ = some (.int .i64 n) ∧ World.cell? w' ⟨g, (q + 1) * 4 + 2, none⟩ = some (.string t) ∧ World.cell? w' ⟨g, (q + 1) * 4 + 3, none⟩ = some (.slice ia l.length ic) ∧ World.cell? w' ⟨g, q * 4, none⟩ = some (.int .i64 kd2) ∧ World.cell? w' ⟨g, q * 4 + 1, none⟩ = some (.int .i64 n2) ∧ World.cell? w' ⟨g, q * 4 + 2, none⟩ = some (.string t2) ∧ World.cell? w' ⟨g, q * 4 + 3, none⟩ = some (.slice ia2 l2.length ic2)) 15 (by kernel_rfl) trivial ⟨(four_at (Sv.own_at (Bag.drew1 S6.out) 0 rfl).reads _ _ HL1.out).1, (four_at (Sv.own_at (Bag.drew1 S6.out) 0 rfl).reads _ _ HL1.out).2.1, (four_at (Sv.own_at (Bag.drew1 S6.out) 0 rfl).reads _ _ HL1.out).2.2.1, (four_at (Sv.own_at (Bag.drew1 S6.out) 0 rfl).reads _ _ HL1.out).2.2.2, (four_at (Sv.own_at (Bag.drew1 S6.out) 0 rfl).reads _ _ HL2.out).1, (four_at (Sv.own_at (Bag.drew1 S6.out) 0 rfl).reads _ _ HL2.out).2.1, (four_at (Sv.own_at (Bag.drew1 S6.out) 0 rfl).reads _ _ HL2.out).2.2.1, (four_at (Sv.own_at (Bag.drew1 S6.out) 0 rfl).reads _ _ HL2.out).2.2.2⟩ (fun hS hL => ?_)
            have S7 := Lib.hid (show Sl.Sep W _ [Sv.ownV 43 4 (some ⟨g, 0, none⟩) c N (cellsI (srt.take (q + 1) ++ ⟨⟨kd, n, t⟩, ia, ic, l⟩ :: (srt.drop (q + 1) ++ ys.drop (k + 1)))), Run.restR W w g] from Bag.drew1 S6.out)
            clear S6
            generalize World.drew _ = w3 at hS hL S7 ⊢
            refine Reg.early_op (i := 0) (v := ?_) rfl (by kernel_rfl) (by kernel_rfl) (by kernel_rfl) rfl (by kernel_rfl) (by kernel_rfl) (fun _ _ _ h => h) (by rfl) ?_ hS hL ?_
            rotate_left
            · (intro w hSw hSv; (try dsimp only at hSw); (try dsimp only at hSv); go_simp; try with_reducible rfl)
            try simp only [zp0, zp1, zp2, zp3, zp4]
            refine Reg.early_op (i := 1) (v := ?_) rfl (by kernel_rfl) (by kernel_rfl) (by kernel_rfl) rfl (by kernel_rfl) (by kernel_rfl) (fun _ _ _ h => h) (by rfl) ?_ hS hL ?_
            rotate_left
            · (intro w hSw hSv; (try dsimp only at hSw); (try dsimp only at hSv); go_simp; try with_reducible rfl)
            try simp only [zp0, zp1, zp2, zp3, zp4]
            refine Reg.early_op (i := 2) (v := ?_) rfl (by kernel_rfl) (by kernel_rfl) (by kernel_rfl) rfl (by kernel_rfl) (by kernel_rfl) (fun _ _ _ h => h) (by rfl) ?_ hS hL ?_
            rotate_left
            · (intro w hSw hSv; (try dsimp only at hSw); (try dsimp only at hSv); go_simp; try with_reducible rfl)
            try simp only [zp0, zp1, zp2, zp3, zp4]
            refine Reg.plain_op (i := 3) (v := ?_) rfl (by kernel_rfl) (by kernel_rfl) (by kernel_rfl) rfl (fun _ _ _ h => h) (by rfl) ?_ hS (fun _ => hL) ?_
            rotate_left
            · (intro w hSw; (try dsimp only at hSw); go_simp; try with_reducible rfl)
            try simp only [zp0, zp1, zp2, zp3, zp4]
            refine Reg.plain_op (i := 4) (v := ?_) rfl (by kernel_rfl) (by kernel_rfl) (by kernel_rfl) rfl (fun _ _ _ h => h) (by rfl) ?_ hS (fun _ => hL) ?_
            rotate_left
            · (intro w hSw; (try dsimp only at hSw); go_simp; try with_reducible rfl)
            try simp only [zp0, zp1, zp2, zp3, zp4]
            refine Reg.early_op (i := 5) (v := ?_) rfl (by kernel_rfl) (by kernel_rfl) (by kernel_rfl) rfl (by kernel_rfl) (by kernel_rfl) (fun _ _ _ h => h) (by rfl) ?_ hS hL ?_
            rotate_left
            · (intro w hSw hSv; (try dsimp only at hSw); (try dsimp only at hSv); go_simp; try with_reducible rfl)
            try simp only [zp0, zp1, zp2, zp3, zp4]
            refine Reg.early_op (i := 6) (v := ?_) rfl (by kernel_rfl) (by kernel_rfl) (by kernel_rfl) rfl (by kernel_rfl) (by kernel_rfl) (fun _ _ _ h => h) (by rfl) ?_ hS hL ?_
            rotate_left
            · (intro w hSw hSv; (try dsimp only at hSw); (try dsimp only at hSv); go_simp; try with_reducible rfl)
            try simp only [zp0, zp1, zp2, zp3, zp4]
            refine Reg.early_op (i := 7) (v := ?_) rfl (by kernel_rfl) (by kernel_rfl) (by kernel_rfl) rfl (by kernel_rfl) (by kernel_rfl) (fun _ _ _ h => h) (by rfl) ?_ hS hL ?_
            rotate_left
            · (intro w hSw hSv; (try dsimp only at hSw); (try dsimp only at hSv); go_simp; try with_reducible rfl)
            try simp only [zp0, zp1, zp2, zp3, zp4]
            refine Reg.early_op (i := 8) (v := ?_) rfl (by kernel_rfl) (by kernel_rfl) (by kernel_rfl) rfl (by kernel_rfl) (by kernel_rfl) (fun _ _ _ h => h) (by rfl) ?_ hS hL ?_
            rotate_left
            · (intro w hSw hSv; (try dsimp only at hSw); (try dsimp only at hSv); go_simp; try with_reducible rfl)
            try simp only [zp0, zp1, zp2, zp3, zp4]
            refine Reg.plain_op (i := 9) (v := ?_) rfl (by kernel_rfl) (by kernel_rfl) (by kernel_rfl) rfl (fun _ _ _ h => h) (by rfl) ?_ hS (fun _ => hL) ?_
            rotate_left
            · (intro w hSw; (try dsimp only at hSw); go_simp; try with_reducible rfl)
            try simp only [zp0, zp1, zp2, zp3, zp4]
            refine Reg.plain_op (i := 10) (v := ?_) rfl (by kernel_rfl) (by kernel_rfl) (by kernel_rfl) rfl (fun _ _ _ h => h) (by rfl) ?_ hS (fun _ => hL) ?_
            rotate_left
            · (intro w hSw; (try dsimp only at hSw); go_simp; try with_reducible rfl)
            try simp only [zp0, zp1, zp2, zp3, zp4]
            refine Reg.plain_op (i := 11) (v := ?_) rfl (by kernel_rfl) (by kernel_rfl) (by kernel_rfl) rfl (fun _ _ _ h => h) (by rfl) ?_ hS (fun _ => hL) ?_
            rotate_left
            · (intro w hSw; (try dsimp only at hSw); go_simp; try with_reducible rfl)
            try simp only [zp0, zp1, zp2, zp3, zp4]
            refine Reg.plain_op (i := 12) (v := ?_) rfl (by kernel_rfl) (by kernel_rfl) (by kernel_rfl) rfl (fun _ _ _ h => h) (by rfl) ?_ hS (fun _ => hL) ?_
            rotate_left
            · (intro w hSw; (try dsimp only at hSw); go_simp; try with_reducible rfl)
            try simp only [zp0, zp1, zp2, zp3, zp4]
            refine Reg.early_op (i := 13) (v := ?_) rfl (by kernel_rfl) (by kernel_rfl) (by kernel_rfl) rfl (by kernel_rfl) (by kernel_rfl) (fun _ _ _ h => h) (by rfl) ?_ hS hL ?_
            rotate_left
            · (intro w hSw hSv; (try dsimp only at hSw); (try dsimp only at hSv); go_simp; try with_reducible rfl)
            try simp only [zp0, zp1, zp2, zp3, zp4]
            refine Reg.early_op (i := 14) (v := ?_) rfl (by kernel_rfl) (by kernel_rfl) (by kernel_rfl) rfl (by kernel_rfl) (by kernel_rfl) (fun _ _ _ h => h) (by rfl) ?_ hS hL ?_
            rotate_left
            · (intro w hSw hSv; (try dsimp only at hSw); (try dsimp only at hSv); go_simp; try with_reducible rfl)
            try simp only [zp0, zp1, zp2, zp3, zp4]
            refine Reg.late_op (i := 15) rfl (by kernel_rfl) rfl (fun K hK => ?_)
            have S8 := Lib.hid (show Sl.Sep W _ [Sv.ownV 43 4 (some ⟨g, 0, none⟩) c N (cellsI (srt.take q) ++ (cellsI [⟨⟨kd2, n2, t2⟩, ia2, ic2, l2⟩] ++ (cellsI [⟨⟨kd, n, t⟩, ia, ic, l⟩] ++ cellsI (srt.drop (q + 1) ++ ys.drop (k + 1))))), Run.restR W w g] from (by have h := S7.out; rw [cells_swap1 HY.out] at h; exact h))
            clear S7
            have HAL := Lib.hid (show (cellsI (srt.take q)).length = q * 4 by rw [cellsI_length, List.length_take]; omega)
            have HAR := Lib.hid (show q * 4 + 8 ≤ (cellsI (srt.take q) ++ (cellsI [⟨⟨kd2, n2, t2⟩, ia2, ic2, l2⟩] ++ (cellsI [⟨⟨kd, n, t⟩, ia, ic, l⟩] ++ cellsI (srt.drop (q + 1) ++ ys.drop (k + 1))))).length from by simp only [List.length_append, HAL.out, cellsI_length, List.length_cons, List.length_nil]; omega)
            have q0 := (Sv.own_at S8.out 0 rfl).cell (q * 4) (by have := HAR.out; omega)
            have z0 := (Sv.own_at S8.out 0 rfl).free (q * 4)
            have q1 := (Sv.own_at S8.out 0 rfl).cell (q * 4 + 1) (by have := HAR.out; omega)
            have z1 := (Sv.own_at S8.out 0 rfl).free (q * 4 + 1)
            have q2 := (Sv.own_at S8.out 0 rfl).cell (q * 4 + 2) (by have := HAR.out; omega)
            have z2 := (Sv.own_at S8.out 0 rfl).free (q * 4 + 2)
            have q3 := (Sv.own_at S8.out 0 rfl).cell (q * 4 + 3) (by have := HAR.out; omega)
            have z3 := (Sv.own_at S8.out 0 rfl).free (q * 4 + 3)
            go_simp
            clear q0 z0 q1 z1 q2 z2 q3 z3
            have S9 := Lib.hid (show Sl.Sep W ((((w3.setCell ⟨g, q * 4, none⟩ (.int .i64 kd)).setCell ⟨g, q * 4 + 1, none⟩ (.int .i64 n)).setCell ⟨g, q * 4 + 2, none⟩ (.string t)).setCell ⟨g, q * 4 + 3, none⟩ (.slice ia l.length ic)) [Sv.ownV 43 4 (some ⟨g, 0, none⟩) c N (cellsI (srt.take q) ++ (cellsI [⟨⟨kd, n, t⟩, ia, ic, l⟩] ++ (cellsI [⟨⟨kd, n, t⟩, ia, ic, l⟩] ++ cellsI (srt.drop (q + 1) ++ ys.drop (k + 1))))), Run.restR W w g] from (by have h := Run.put_run S8.out 0 rfl (q * 4) [.int .i64 kd, .int .i64 n, .string t, .slice ia l.length ic] (by have := HAR.out; simp only [List.length_cons, List.length_nil]; omega); rw [Run.over_mid _ _ _ _ _ HAL.out (by rw [cellsI_length]; rfl)] at h; exact h))
            clear S8
            refine hK.out _ _ trivial (fun hS => ?_)
            clear hL
            clear hK K
            try simp only [zp0, zp1, zp2, zp3, zp4]
            refine Reg.plain_op (i := 16) (v := ?_) rfl (by kernel_rfl) (by kernel_rfl) (by kernel_rfl) rfl (fun _ _ _ h => h) (by rfl) ?_ hS (fun h => absurd h (by decide)) ?_
            rotate_left
            · (intro w hSw; (try dsimp only at hSw); go_simp; try with_reducible rfl)
            try simp only [zp0, zp1, zp2, zp3, zp4]
            refine Reg.after_op (i := 17) rfl (by kernel_rfl) (by kernel_rfl) (fun K hK => ?_)
            have S10 := Lib.hid (show Sl.Sep W ((((w3.setCell ⟨g, q * 4, none⟩ (.int .i64 kd)).setCell ⟨g, q * 4 + 1, none⟩ (.int .i64 n)).setCell ⟨g, q * 4 + 2, none⟩ (.string t)).setCell ⟨g, q * 4 + 3, none⟩ (.slice ia l.length ic)) [Sv.ownV 43 4 (some ⟨g, 0, none⟩) c N ((cellsI (srt.take q) ++ cellsI [⟨⟨kd, n, t⟩, ia, ic, l⟩]) ++ (cellsI [⟨⟨kd, n, t⟩, ia, ic, l⟩] ++ cellsI (srt.drop (q + 1) ++ ys.drop (k + 1)))), Run.restR W w g] from (by have h := S9.out; rw [← List.append_assoc] at h; exact h))
            clear S9
            have HAL2 := Lib.hid (show (cellsI (srt.take q) ++ cellsI [⟨⟨kd, n, t⟩, ia, ic, l⟩]).length = (q + 1) * 4 by rw [List.length_append, HAL.out, cellsI_length]; simp; omega)
            have HAR2 := Lib.hid (show (q + 1) * 4 + 4 ≤ ((cellsI (srt.take q) ++ cellsI [⟨⟨kd, n, t⟩, ia, ic, l⟩]) ++ (cellsI [⟨⟨kd, n, t⟩, ia, ic, l⟩] ++ cellsI (srt.drop (q + 1) ++ ys.drop (k + 1)))).length from by simp only [List.length_append, HAL.out, cellsI_length, List.length_cons, List.length_nil]; omega)
            have q0 := (Sv.own_at S10.out 0 rfl).cell ((q + 1) * 4) (by have := HAR2.out; omega)
            have z0 := (Sv.own_at S10.out 0 rfl).free ((q + 1) * 4)
            have q1 := (Sv.own_at S10.out 0 rfl).cell ((q + 1) * 4 + 1) (by have := HAR2.out; omega)
            have z1 := (Sv.own_at S10.out 0 rfl).free ((q + 1) * 4 + 1)
            have q2 := (Sv.own_at S10.out 0 rfl).cell ((q + 1) * 4 + 2) (by have := HAR2.out; omega)
            have z2 := (Sv.own_at S10.out 0 rfl).free ((q + 1) * 4 + 2)
            have q3 := (Sv.own_at S10.out 0 rfl).cell ((q + 1) * 4 + 3) (by have := HAR2.out; omega)
            have z3 := (Sv.own_at S10.out 0 rfl).free ((q + 1) * 4 + 3)
            go_simp
            clear q0 z0 q1 z1 q2 z2 q3 z3
            have S11 := Lib.hid (show Sl.Sep W ((((((((w3.setCell ⟨g, q * 4, none⟩ (.int .i64 kd)).setCell ⟨g, q * 4 + 1, none⟩ (.int .i64 n)).setCell ⟨g, q * 4 + 2, none⟩ (.string t)).setCell ⟨g, q * 4 + 3, none⟩ (.slice ia l.length ic)).setCell ⟨g, (q + 1) * 4, none⟩ (.int .i64 kd2)).setCell ⟨g, (q + 1) * 4 + 1, none⟩ (.int .i64 n2)).setCell ⟨g, (q + 1) * 4 + 2, none⟩ (.string t2)).setCell ⟨g, (q + 1) * 4 + 3, none⟩ (.slice ia2 l2.length ic2)) [Sv.ownV 43 4 (some ⟨g, 0, none⟩) c N ((cellsI (srt.take q) ++ cellsI [⟨⟨kd, n, t⟩, ia, ic, l⟩]) ++ (cellsI [⟨⟨kd2, n2, t2⟩, ia2, ic2, l2⟩] ++ cellsI (srt.drop (q + 1) ++ ys.drop (k + 1)))), Run.restR W w g] from (by have h := Run.put_run S10.out 0 rfl ((q + 1) * 4) [.int .i64 kd2, .int .i64 n2, .string t2, .slice ia2 l2.length ic2] (by have := HAR2.out; simp only [List.length_cons, List.length_nil]; omega); rw [Run.over_mid _ _ _ _ _ HAL2.out (by rw [cellsI_length]; rfl)] at h; exact h))
            clear S10
            refine hK.out _ _ trivial (fun hS => ?_)
            clear hK K
            try simp only [zp0, zp1, zp2, zp3, zp4]
            refine Reg.anyL_done (by kernel_rfl) ?_ _
            have S12 := Lib.hid (show Sl.Sep W _ [Sv.ownV 43 4 (some ⟨g, 0, none⟩) c N (cellsI (srt.take q ++ ⟨⟨kd, n, t⟩, ia, ic, l⟩ :: (srt.drop q ++ ys.drop (k + 1)))), Run.restR W w g] from (by rw [cells_swap2 HY.out]; exact S11.out))
            clear S11
            go_wp2_with fail
            go_roundw
            case rel => exact ⟨q, by omega, by go_num, And.intro (by rw [HBP.out, backP_go HYC.out hb]) S12.out⟩
            case measure => simp [intOf]
    · skip
      go_wp2_with fail
      obtain rfl : k = N := by omega
      have hd : ys.drop k = [] := List.drop_of_length_le (Nat.le_of_eq HN.out.symm)
      have HC2 := HC.out
      have SE := S2.out
      rw [hd, List.append_nil] at HC2 SE
      rw [List.take_of_length_le (by rw [conI_length]; exact Nat.le_of_eq HN.out.symm)] at HC2
      go_end0
      exact ⟨rfl, srt, HC2.2.2, HC2.2.1, SE⟩
set_option maxHeartbeats 2000000 in
theorem sortNil_any (gc : Nat) (w : World) :
    Calls Try.prog 83 #[.slice none 0 0, .func (.func 84) #[] #[.pointer (some ⟨gc, 0, none⟩)]] w fun e w' => e = .returned (.tuple #[]) ∧ Below w.heap.size w w' := by
  go_enter Try.func83, Try.ntmps83
  go_wp2_with fail
  refine wp_loop_rounds 1 ?_
  rw [rounds_succ]
  go_wp2_with fail
  go_end0
  exact ⟨rfl, Below.refl _ _⟩
set_option maxHeartbeats 8000000 in
theorem indexOn_any (y : LS) (f : ByteArray) (hf : FitS y.con) (w : World) (hr : RowsRd w w.heap.size y.rows) :
    Calls Try.prog 25 #[y.v, .string f] w (GaveIs w (idxI y.con.items f.data.toList)) := by
  have HF := Lib.hid hf.items
  have HRY := Lib.hid (fun w' (h : Below w.heap.size w w') => (hr.below h).more h.size)
  have HINN := Lib.hid (fun w' (h : Below w.heap.size w w') => ((LS.inner hr).below h).more h.size)
  have hmf : ∀ (fn : Fn) (first cap : Array Value) (w : World), (Instr.makeFunc fn first cap).run Try.prog w = .ok (.func fn first cap) w := fun _ _ _ _ => rfl
  have HFS := Lib.hid hf
  clear hr hf
  obtain ⟨name, a, c, xs, auto⟩ := y
  dsimp only [LS.v, LS.cells, LS.con] at HRY HF HINN HFS ⊢
  have hxl : xs.length ≤ 1048576 := by have h := HFS.out.len; simp only [conI_length] at h; exact h
  have HXL := Lib.hid hxl
  clear hxl
  have S1 := Lib.hid (show Sl.Sep w ((w.alloc (.cells #[.string name, .slice a xs.length c, .int .i64 auto] 26)).alloc (.cells #[.string f] 9)) [L4.boxR w.heap.size 26 #[.string name, .slice a xs.length c, .int .i64 auto], L4.boxR (w.heap.size + 1) 9 #[.string f]] from L4.push_box (L4.push_box (Sl.Sep.start w) 26 #[.string name, .slice a xs.length c, .int .i64 auto] (w.heap.size) (by simp)) 9 #[.string f] (w.heap.size + 1) (by simp))
  obtain ⟨wa, hwa⟩ : ∃ u, u = ((w.alloc (.cells #[.string name, .slice a xs.length c, .int .i64 auto] 26)).alloc (.cells #[.string f] 9)) := ⟨_, rfl⟩
  rw [← hwa] at S1
  go_enter Try.func25, Try.ntmps25
  go_upto_region 1 with fail
  rw [← hwa]
  clear hwa
  have HW := Lib.hid (itemsWhereB_any (w.heap.size + 1) (fun x => getB x.l f.data.toList) ⟨name, a, c, xs, auto⟩ HFS.out wa (fun x hx w' hb => by
    have c0 := (Below.cell hb (p := ⟨w.heap.size + 1, 0, none⟩) (S1.out.lies 1 _ rfl _ (by simp [L4.boxR])).2).trans (Bag.cell_at S1.out 1 rfl 0 rfl)
    exact indexOn1_any _ _ _ _ _ x.l f (HF.out _ (List.mem_map.2 ⟨x, hx, rfl⟩)).len _ w' (((HINN.out w' (S1.out.old.trans (hb.mono S1.out.old.size))).at_ (rowsI_mem' hx)).reads) (Nat.lt_of_lt_of_le (S1.out.lies 1 _ rfl _ (by simp [L4.boxR])).2 hb.size) c0) (HRY.out _ S1.out.old))
  dsimp only [LS.v, LS.cells, LS.con] at HW
  have hh := Bag.cs3 S1.out 0 rfl
  have f0 := hh.1; have f1 := hh.2.1; have f2 := hh.2.2; clear hh
  have f3 := Bag.cs1 S1.out 1 rfl
  go_wp2_with fail
  go_at_call 66
  refine (HW.out).mono ?_
  rintro e w1 ⟨la, lc, ys, rfl, hys, ho, hb⟩
  clear f0 f1 f2 f3
  have S2 := Lib.hid (show Sl.Sep w _ [L4.boxR w.heap.size 26 #[.string name, .slice a xs.length c, .int .i64 auto], L4.boxR (w.heap.size + 1) 9 #[.string f], Bag.bag (rowI la lc ys :: rowsI ys)] from Bag.push_bag S1.out hb ho)
  clear S1
  clear hb ho
  clear HW
  have HY := Lib.hid hys
  clear hys
  have hyl : ys.length ≤ 1048576 := by have h := congrArg List.length HY.out; rw [conI_length] at h; have h2 := List.length_filter_le (fun x : It => getB x.l f.data.toList) (conI xs); rw [conI_length] at h2; have := HXL.out; omega
  have HYL := Lib.hid hyl
  clear hyl
  have HIT := Lib.hid (fun (x : LI) (hx : x ∈ ys) => HF.out x.con (List.mem_filter.1 (show x.con ∈ (conI xs).filter (fun x => getB x.l f.data.toList) from by rw [← HY.out]; exact List.mem_map.2 ⟨x, hx, rfl⟩)).1)
  have HIDX := Lib.hid (show idxI (conI xs) f.data.toList = srtI f.data.toList (conI ys) from by rw [idx_srt, HY.out])
  have S3 := Lib.hid (show Sl.Sep w _ [L4.boxR w.heap.size 26 #[.string name, .slice a xs.length c, .int .i64 auto], L4.boxR (w.heap.size + 1) 9 #[.string f], Bag.bag ([rowI la lc ys] ++ rowsI ys)] from S2.out)
  clear S2
  have S4 := Lib.hid (show Sl.Sep w _ [L4.boxR w.heap.size 26 #[.string name, .slice a xs.length c, .int .i64 auto], L4.boxR (w.heap.size + 1) 9 #[.string f], Bag.bag ([rowI la lc ys]), Bag.bag (rowsI ys)] from Bag.bag_split S3.out 2 rfl)
  clear S3
  have S5 := Lib.hid (show Sl.Sep w _ [L4.boxR w.heap.size 26 #[.string name, .slice a xs.length c, .int .i64 auto], L4.boxR (w.heap.size + 1) 9 #[.string f], Sv.ownV 43 4 la lc ys.length (cellsI ys), Bag.bag (rowsI ys)] from (by have h := Bag.one_of_bag S4.out 2 (r := rowI la lc ys) rfl; unfold RowS.res rowI at h; dsimp only at h; exact h))
  clear S4
  rcases (Sv.own_at S5.out 2 rfl).form with ⟨rfl, hl0, -, rfl⟩ | ⟨g3, rfl, -⟩
  · have hy0 : ys = [] := List.eq_nil_of_length_eq_zero hl0
    subst hy0
    dsimp only [List.length_nil]
    have hh := Bag.cs3 S5.out 0 rfl
    have f0 := hh.1; have f1 := hh.2.1; have f2 := hh.2.2; clear hh
    have f3 := Bag.cs1 S5.out 1 rfl
    go_wp2_with fail
    go_at_call 83
    refine (sortNil_any _ _).mono ?_
    rintro e w2 ⟨rfl, hb⟩
    clear f0 f1 f2 f3
    have S6 := Lib.hid (S5.out.keep hb)
    clear S5
    clear hb
    have hh := Bag.cs3 S6.out 0 rfl
    have f0 := hh.1; have f1 := hh.2.1; have f2 := hh.2.2; clear hh
    have f3 := Bag.cs1 S6.out 1 rfl
    go_wp2_with fail
    go_ret
    exact ⟨none, 0, [], rfl, (show conI [] = srtI f.data.toList (conI []) from rfl).trans HIDX.out.symm, BagOwn.one (by have h := Sv.own_from S6.out 2 rfl; exact h), S6.out.old⟩
  · skip
    have HPR : Hid (Prec 84 (w.heap.size + 1) g3 f.data.toList ys w1) := Lib.hid (fun x hx y hy w' ht => by
      have hne : ∀ (i : Nat) (r : Res), i ≠ 2 → ([L4.boxR w.heap.size 26 #[.string name, .slice a xs.length c, .int .i64 auto], L4.boxR (w.heap.size + 1) 9 #[.string f], Sv.ownV 43 4 (some ⟨g3, 0, none⟩) lc ys.length (cellsI ys), Bag.bag (rowsI ys)] : List Res)[i]? = some r → ∀ b ∈ r.fp, w'.heap[b]? = (World.heap w1)[b]? := fun i r hi hr b hb => ht.block b (S5.out.lies i r hr b hb).2 (fun e => by
        rw [List.mem_singleton] at e; subst e; exact S5.out.apart i 2 r _ hr rfl hi _ hb (by simp [Sv.ownV, Value.ownBlock]))
      have hrd := Bag.BagOwn.rd ((Bag.bag (rowsI ys)).loc (hne 3 _ (by decide) rfl) (S5.out.is 3 _ rfl))
      have hrow := (L4.boxR (w.heap.size + 1) 9 #[.string f]).loc (hne 1 _ (by decide) rfl) (S5.out.is 1 _ rfl)
      have hrow' : Row w' (w.heap.size + 1) 9 #[.string f] := hrow
      exact indexOn2_any _ _ _ _ _ _ _ _ _ _ x.l y.l f _ (HIT.out x hx).text (HIT.out y hy).text (HIT.out x hx).len (HIT.out y hy).len w' ((hrd.at_ (rowsI_mem' hx)).reads) ((hrd.at_ (rowsI_mem' hy)).reads) (Nat.lt_of_lt_of_le (S5.out.lies 1 _ rfl _ (by simp [L4.boxR])).2 ht.size) (by rw [hrow'.cell]; rfl))
    have HSO := Lib.hid (sort_any g3 (w.heap.size + 1) lc f.data.toList ys (by have := HYL.out; omega) w w1 (Run.rest_start S5.out 2 rfl) HPR.out)
    have hh := Bag.cs3 S5.out 0 rfl
    have f0 := hh.1; have f1 := hh.2.1; have f2 := hh.2.2; clear hh
    have f3 := Bag.cs1 S5.out 1 rfl
    go_wp2_with fail
    go_at_call 83
    refine HSO.out.mono ?_
    rintro e w5 ⟨zs, rfl, hpm, hcz, hS⟩
    clear f0 f1 f2 f3
    have S6 := Lib.hid (show Sl.Sep w _ [L4.boxR w.heap.size 26 #[.string name, .slice a xs.length c, .int .i64 auto], L4.boxR (w.heap.size + 1) 9 #[.string f], Sv.ownV 43 4 (some ⟨g3, 0, none⟩) lc ys.length (cellsI zs), Bag.bag (rowsI ys)] from Run.rest_back S5.out 2 rfl hS)
    clear S5
    clear hS HSO HPR
    have HPM := Lib.hid hpm
    have HCZ := Lib.hid hcz
    clear hpm hcz
    have S7 := Lib.hid (show Sl.Sep w _ [L4.boxR w.heap.size 26 #[.string name, .slice a xs.length c, .int .i64 auto], L4.boxR (w.heap.size + 1) 9 #[.string f], Sv.ownV 43 4 (some ⟨g3, 0, none⟩) lc ys.length (cellsI zs), Bag.bag (rowsI zs)] from Bag.bag_perm S6.out 3 rfl ((HPM.out.map LI.row).symm))
    clear S6
    have hh := Bag.cs3 S7.out 0 rfl
    have f0 := hh.1; have f1 := hh.2.1; have f2 := hh.2.2; clear hh
    have f3 := Bag.cs1 S7.out 1 rfl
    go_wp2_with fail
    go_ret
    have hlz := HPM.out.length_eq
    clear f0 f1 f2 f3
    have S8 := Lib.hid (show Sl.Sep w _ [L4.boxR w.heap.size 26 #[.string name, .slice a xs.length c, .int .i64 auto], L4.boxR (w.heap.size + 1) 9 #[.string f], Sv.ownV 43 4 (some ⟨g3, 0, none⟩) lc zs.length (cellsI zs), Bag.bag (rowsI zs)] from (by have h := S7.out; rw [← hlz] at h; exact h))
    clear S7
    have S9 := Lib.hid (show Sl.Sep w _ [L4.boxR w.heap.size 26 #[.string name, .slice a xs.length c, .int .i64 auto], L4.boxR (w.heap.size + 1) 9 #[.string f], Bag.bag ([rowI (some ⟨g3, 0, none⟩) lc zs]), Bag.bag (rowsI zs)] from Bag.bag_of_one S8.out 2 (r := rowI (some ⟨g3, 0, none⟩) lc zs) rfl)
    clear S8
    have S10 := Lib.hid (show Sl.Sep w _ [L4.boxR w.heap.size 26 #[.string name, .slice a xs.length c, .int .i64 auto], L4.boxR (w.heap.size + 1) 9 #[.string f], Bag.bag ([rowI (some ⟨g3, 0, none⟩) lc zs] ++ (rowsI zs)), Bag.bag ([])] from Bag.bag_join S9.out 2 3 (by decide) rfl rfl)
    clear S9
    exact ⟨some ⟨g3, 0, none⟩, lc, zs, by rw [hlz]; rfl, HCZ.out.trans HIDX.out.symm, Bag.bag_from S10.out 2 rfl, S10.out.old⟩
end Go.Proofs.Ytmnedjhfibmcnaa.L7

/-
  The contracts of chapter 7's functions of the specification, I: l7Less, ItemsWith, CountWith. Conditions: keys' texts of at most 2^40 bytes, at most 2^20 fields and items. (Written by my program gen_l7a.py.)
-/
namespace Go.Proofs.Ytmnedjhfibmcnaa.L7
set_option maxRecDepth 100000
open L4 (K isK cmpK R inR encU)
open L5 (F isR isN cellsF encR eqR Small getO getN getB)
open L6
open Go.ChangeShapes Go.WideShapes Go.ChangeAt Go.RowKit Mem Sl Ex L2 Sv Bag
set_option linter.unusedVariables false
set_option linter.unusedSimpArgs false

theorem beq_no {a b : Int} (h : ¬ a = b) : (a == b) = false := by simpa using h

set_option maxHeartbeats 8000000 in
theorem l7Less_any (d1 n1 d2 n2 : Int) (t1 t2 : ByteArray) (a1 a2 : Option Addr) (c1 c2 : Nat) (l1 l2 : List F) (f : ByteArray) (ht1 : t1.size ≤ 1099511627776) (ht2 : t2.size ≤ 1099511627776) (hl1 : l1.length ≤ 1048576) (hl2 : l2.length ≤ 1048576) (w : World) (hr1 : Reads w w.heap.size a1 (cellsF l1)) (hr2 : Reads w w.heap.size a2 (cellsF l2)) :
    Calls Try.prog 102 #[.agg #[.int .i64 d1, .int .i64 n1, .string t1, .slice a1 l1.length c1], .agg #[.int .i64 d2, .int .i64 n2, .string t2, .slice a2 l2.length c2], .string f] w fun e w' => e = .returned (.bool (less7 f.data.toList ⟨⟨d1, n1, t1⟩, l1⟩ ⟨⟨d2, n2, t2⟩, l2⟩)) ∧ Below w.heap.size w w' := by
  have HR1 := Lib.hid (fun w' (h : Below w.heap.size w w') => L5.specGetField_any a1 c1 l1 f (by omega) w' ((hr1.below h).more h.size))
  have HR2 := Lib.hid (fun w' (h : Below w.heap.size w w') => L5.specGetField_any a2 c2 l2 f (by omega) w' ((hr2.below h).more h.size))
  have HCK := fun w => L4.specCompareKeys_any ⟨d1, n1, t1⟩ ⟨d2, n2, t2⟩ (by show t1.size ≤ _; omega) (by show t2.size ≤ _; omega) w
  obtain ⟨be, hbe⟩ : ∃ b, less7 f.data.toList ⟨⟨d1, n1, t1⟩, l1⟩ ⟨⟨d2, n2, t2⟩, l2⟩ = b := ⟨_, rfl⟩
  rw [hbe]
  unfold less7 at hbe
  dsimp only at hbe
  obtain ⟨na, hna⟩ : ∃ u, getN l1 f.data.toList = u := ⟨_, rfl⟩
  obtain ⟨nb, hnb⟩ : ∃ u, getN l2 f.data.toList = u := ⟨_, rfl⟩
  obtain ⟨m, hm⟩ : ∃ u, cmpK ⟨d1, n1, t1⟩ ⟨d2, n2, t2⟩ = u := ⟨_, rfl⟩
  rw [hna] at HR1
  rw [hnb] at HR2
  rw [hm] at HCK
  rw [hna, hnb, hm] at hbe
  replace HCK := Lib.hid HCK
  have HE := Lib.hid hbe
  clear hbe hna hnb hm hr1 hr2
  dsimp only [L4.K.v] at HCK
  have S1 := Lib.hid (show Sl.Sep w ((w.alloc (.cells #[.int .i64 d1, .int .i64 n1, .string t1, .slice a1 l1.length c1] 43)).alloc (.cells #[.int .i64 d2, .int .i64 n2, .string t2, .slice a2 l2.length c2] 43)) [L4.boxR w.heap.size 43 #[.int .i64 d1, .int .i64 n1, .string t1, .slice a1 l1.length c1], L4.boxR (w.heap.size + 1) 43 #[.int .i64 d2, .int .i64 n2, .string t2, .slice a2 l2.length c2]] from L4.push_box (L4.push_box (Sl.Sep.start w) 43 #[.int .i64 d1, .int .i64 n1, .string t1, .slice a1 l1.length c1] (w.heap.size) (by simp)) 43 #[.int .i64 d2, .int .i64 n2, .string t2, .slice a2 l2.length c2] (w.heap.size + 1) (by simp))
  obtain ⟨wa, hwa⟩ : ∃ u, u = ((w.alloc (.cells #[.int .i64 d1, .int .i64 n1, .string t1, .slice a1 l1.length c1] 43)).alloc (.cells #[.int .i64 d2, .int .i64 n2, .string t2, .slice a2 l2.length c2] 43)) := ⟨_, rfl⟩
  rw [← hwa] at S1
  go_enter Try.func102, Try.ntmps102
  go_upto_region 1 with fail
  rw [← hwa]
  clear hwa
  have hh := Bag.cs4 S1.out 0 rfl
  have f0 := hh.1; have f1 := hh.2.1; have f2 := hh.2.2.1; have f3 := hh.2.2.2; clear hh
  have hh := Bag.cs4 S1.out 1 rfl
  have f4 := hh.1; have f5 := hh.2.1; have f6 := hh.2.2.1; have f7 := hh.2.2.2; clear hh
  go_wp2_with fail
  go_at_call 26
  refine (HR1.out _ S1.out.old).mono ?_
  rintro e w1 ⟨rfl, hb⟩
  clear f0 f1 f2 f3 f4 f5 f6 f7
  have S2 := Lib.hid (S1.out.keep hb)
  clear S1
  clear hb
  have hh := Bag.cs4 S2.out 0 rfl
  have f0 := hh.1; have f1 := hh.2.1; have f2 := hh.2.2.1; have f3 := hh.2.2.2; clear hh
  have hh := Bag.cs4 S2.out 1 rfl
  have f4 := hh.1; have f5 := hh.2.1; have f6 := hh.2.2.1; have f7 := hh.2.2.2; clear hh
  go_wp2_with fail
  go_at_call 26
  refine (HR2.out _ S2.out.old).mono ?_
  rintro e w2 ⟨rfl, hb⟩
  clear f0 f1 f2 f3 f4 f5 f6 f7
  have S3 := Lib.hid (S2.out.keep hb)
  clear S2
  clear hb
  have hh := Bag.cs4 S3.out 0 rfl
  have f0 := hh.1; have f1 := hh.2.1; have f2 := hh.2.2.1; have f3 := hh.2.2.2; clear hh
  have hh := Bag.cs4 S3.out 1 rfl
  have f4 := hh.1; have f5 := hh.2.1; have f6 := hh.2.2.1; have f7 := hh.2.2.2; clear hh
  by_cases h1 : na < nb
  · skip
    go_wp2_with fail
    go_ret
    exact ⟨by rw [← HE.out]; simp [h1], S3.out.old⟩
  · by_cases h2 : na = nb
    · have h2' : (na == nb) = true := by simp [h2]
      go_wp2_with fail
      go_at_call 27
      refine (HCK.out _).mono ?_
      rintro e w3 ⟨rfl, hb⟩
      clear f0 f1 f2 f3 f4 f5 f6 f7
      have S4 := Lib.hid (S3.out.keep hb)
      clear S3
      clear hb
      have hh := Bag.cs4 S4.out 0 rfl
      have f0 := hh.1; have f1 := hh.2.1; have f2 := hh.2.2.1; have f3 := hh.2.2.2; clear hh
      have hh := Bag.cs4 S4.out 1 rfl
      have f4 := hh.1; have f5 := hh.2.1; have f6 := hh.2.2.1; have f7 := hh.2.2.2; clear hh
      go_wp2_with fail
      go_ret
      exact ⟨by rw [← HE.out]; simp [h1, h2], S4.out.old⟩
    · have h2' : (na == nb) = false := beq_no h2
      go_wp2_with fail
      go_ret
      exact ⟨by rw [← HE.out]; simp [h1, h2], S3.out.old⟩
end Go.Proofs.Ytmnedjhfibmcnaa.L7

/-
  The contracts of chapter 7's functions of the specification, II: IndexOn, UniqueFault. Conditions: keys' texts of at most 2^40 bytes, at most 2^20 fields and items. (Written by my program gen_l7b.py.)
-/
namespace Go.Proofs.Ytmnedjhfibmcnaa.L7
set_option maxRecDepth 100000
open L4 (K isK cmpK R inR encU)
open L5 (F isR isN cellsF encR eqR Small getO getN getB)
open L6
open Go.ChangeShapes Go.WideShapes Go.ChangeAt Go.RowKit Mem Sl Ex L2 Sv Bag
set_option linter.unusedVariables false
set_option linter.unusedSimpArgs false

theorem fit_idx {xs : List It} {t : List UInt8} (h : ∀ x ∈ xs, FitI x) : ∀ x ∈ idxI xs t, FitI x := fun x hx => h x (idxI_mem x hx).1
theorem idx_take {xs : List It} {t : List UInt8} {k : Nat} (h : ∀ x ∈ xs, FitI x) : ∀ x ∈ idxI (xs.take k) t, FitI x := fun x hx => h x (List.mem_of_mem_take (idxI_mem x hx).1)

set_option maxHeartbeats 8000000 in
theorem specIndexOn_any (y : LS) (f : ByteArray) (hf : FitS y.con) (w : World) (hr : RowsRd w w.heap.size y.rows) :
    Calls Try.prog 47 #[y.v, .string f] w (GaveIs w (idxI y.con.items f.data.toList)) := by
  obtain ⟨i0, hi1, hi2, hi3, hi4⟩ := itemInfo
  have HI := Lib.hid (And.intro hi1 (And.intro hi2 (And.intro hi3 hi4)))
  clear hi1 hi2 hi3 hi4
  obtain ⟨name, a, c, xs, auto⟩ := y
  have HR := Lib.hid (fun w' (h : Below w.heap.size w w') => LS.outer (hr.below h))
  have HX := Lib.hid (fun w' (h : Below w.heap.size w w') => (LS.inner (hr.below h)).more h.size)
  have HF := Lib.hid hf.items
  have HNM := Lib.hid hf.name
  have hl := hf.len
  simp only [LS.con, conI_length] at hl
  dsimp only [LS.con] at HR HX HF HNM
  try unfold LS.v LS.cells LS.con
  try dsimp only
  obtain ⟨N, hN⟩ : ∃ n, n = xs.length := ⟨_, rfl⟩
  rw [← hN] at hl ⊢
  have hl' : (N : Int) ≤ 1048576 := by omega
  have HN := Lib.hid hN
  clear hN hr hf
  have S1 := Lib.hid (show Sl.Sep w (w.alloc (.cells #[.string name, .slice a N c, .int .i64 auto] 26)) [L4.boxR w.heap.size 26 #[.string name, .slice a N c, .int .i64 auto]] from L4.push_box (Sl.Sep.start w) 26 #[.string name, .slice a N c, .int .i64 auto] (w.heap.size) (by simp))
  obtain ⟨wa, hwa⟩ : ∃ u, u = (w.alloc (.cells #[.string name, .slice a N c, .int .i64 auto] 26)) := ⟨_, rfl⟩
  rw [← hwa] at S1
  go_enter Try.func47, Try.ntmps47
  go_upto_region 1 with fail
  rw [← hwa]
  clear hwa
  go_upto_region 2 with fail
  have S2 := Lib.hid (show Sl.Sep w _ [L4.boxR w.heap.size 26 #[.string name, .slice a N c, .int .i64 auto], Sv.ownV 43 4 (some ⟨wa.heap.size, 0, none⟩) 0 0 (cellsI [])] from Sv.push_own S1.out ((Below.refl _ _).alloc (Nat.le_refl _) _) (OwnV.madeAt wa 43 4 0 wa.heap.size #[] rfl (Nat.le_refl _) rfl (by decide)))
  clear S1
  obtain ⟨g1, hg⟩ : ∃ g', g' = wa.heap.size := ⟨_, rfl⟩
  rw [← hg] at S2 ⊢
  clear hg
  generalize wa.alloc (.cells #[] 43) = w1 at S2 ⊢
  have S3 := Lib.hid (show Sl.Sep w _ [L4.boxR w.heap.size 26 #[.string name, .slice a N c, .int .i64 auto], Sv.ownV 43 4 (some ⟨g1, 0, none⟩) 0 0 (cellsI []), Bag.bag (rowsI [])] from Bag.push_bag S2.out (Below.refl _ _) (Bag.BagOwn.nil _ _))
  clear S2
  go_wp2_with fail
  go_loopw [5, 6] (fun v i wr => ∃ (k m : Nat) (A : Option Addr) (C : Nat) (ys : List LI), k ≤ N ∧ i = .int .i64 k ∧ v = .slice A m C ∧ m ≤ k ∧ Hid ((m = ys.length ∧ conI ys = idxI ((conI xs).take k) f.data.toList) ∧ Sl.Sep w wr [L4.boxR w.heap.size 26 #[.string name, .slice a N c, .int .i64 auto], Sv.ownV 43 4 A C m (cellsI ys), Bag.bag (rowsI ys)])) (fun _ i _ => N - (intOf i).toNat)
  case atStart => exact ⟨0, 0, _, _, [], Nat.zero_le _, rfl, rfl, Nat.le_refl _, And.intro ⟨rfl, rfl⟩ S3.out⟩
  case round =>
    obtain ⟨k, m, A, C, ys, hk, rfl, rfl, hmk, hrel⟩ := hrel
    have HC := Lib.hid hrel.out.1
    have S4 := Lib.hid hrel.out.2
    clear hrel S3
    by_cases hlt : (k : Int) < (N : Int)
    · skip
      have hkl : k < xs.length := by have := HN.out; omega
      obtain ⟨ad, x, rfl, hx⟩ := readsI_some (HR.out _ S4.out.old) k hkl
      obtain ⟨⟨kd, n, t⟩, ia, ic, l⟩ := x
      have HK := Lib.hid (fun w' (h : Below w.heap.size w w') => readsI_at (HR.out _ h) k _ hx)
      try dsimp only at HK
      have HFI := Lib.hid (fit_at HF.out hx)
      try dsimp only [LI.con] at HFI
      have HCI := Lib.hid (fun w' (h : Below w.heap.size w w') => l6Item_any kd n t ia ic l HFI.out.len w' (((HX.out _ h).at_ (rowsI_mem hx)).reads))
      try dsimp only at HCI
      have HGF := Lib.hid (fun w' (h : Below w.heap.size w w') => L5.specGetField_any ia ic l f (by have : l.length ≤ 1048576 := HFI.out.len; omega) w' (((HX.out _ h).at_ (rowsI_mem hx)).reads))
      obtain ⟨fn, hfn⟩ : ∃ u, getN l f.data.toList = u := ⟨_, rfl⟩
      obtain ⟨fb, hfb⟩ : ∃ u, getB l f.data.toList = u := ⟨_, rfl⟩
      rw [hfn, hfb] at HGF
      have HT := Lib.hid (idxI_take (t := f.data.toList) (show (conI xs)[k]? = some (⟨⟨kd, n, t⟩, l⟩ : It) from con_of hx))
      unfold stepX at HT
      dsimp only at HT
      rw [hfb] at HT
      have HXK := Lib.hid (fun w' (h : Below w.heap.size w w') => ((HX.out _ h).at_ (rowsI_mem hx)).reads)
      try dsimp only [LI.row] at HXK
      clear hx hfn hfb
      have hh := Bag.cs3 S4.out 0 rfl
      have f0 := hh.1; have f1 := hh.2.1; have f2 := hh.2.2; clear hh
      have hh := HK.out _ S4.out.old
      have f3 := hh.1; have f4 := hh.2.1; have f5 := hh.2.2.1; have f6 := hh.2.2.2; clear hh
      go_wp2_with fail
      go_at_call 26
      refine (HGF.out _ S4.out.old).mono ?_
      rintro e w2 ⟨rfl, hb⟩
      clear f0 f1 f2 f3 f4 f5 f6
      have S5 := Lib.hid (S4.out.keep hb)
      clear S4
      clear hb
      have hh := Bag.cs3 S5.out 0 rfl
      have f0 := hh.1; have f1 := hh.2.1; have f2 := hh.2.2; clear hh
      have hh := HK.out _ S5.out.old
      have f3 := hh.1; have f4 := hh.2.1; have f5 := hh.2.2.1; have f6 := hh.2.2.2; clear hh
      cases fb with
      | false =>
        go_wp2_with fail
        go_roundw
        case rel => exact ⟨k + 1, m, A, C, ys, by omega, by go_num, rfl, by omega, And.intro ⟨HC.out.1, by rw [HT.out, HC.out.2]; simp⟩ S5.out⟩
        case measure => simp [intOf]; omega
      | true =>
        rw [if_pos rfl] at HT
        go_upto_block 2 with fail
        go_cut [9] (fun v wx => ∃ j : Nat, j ≤ m ∧ v = .int .i64 j ∧ Hid (backP f.data.toList ⟨⟨kd, n, t⟩, l⟩ (conI ys) m = j ∧ Sl.Sep w wx [L4.boxR w.heap.size 26 #[.string name, .slice (some ad) N c, .int .i64 auto], Sv.ownV 43 4 A C m (cellsI ys), Bag.bag (rowsI ys)]))
        case first =>
          go_wp2_with fail
          go_loopw [9] (fun v wr2 => ∃ j : Nat, j ≤ m ∧ v = .int .i64 j ∧ Hid (backP f.data.toList ⟨⟨kd, n, t⟩, l⟩ (conI ys) m = backP f.data.toList ⟨⟨kd, n, t⟩, l⟩ (conI ys) j ∧ Sl.Sep w wr2 [L4.boxR w.heap.size 26 #[.string name, .slice (some ad) N c, .int .i64 auto], Sv.ownV 43 4 A C m (cellsI ys), Bag.bag (rowsI ys)])) (fun v _ => (intOf v).toNat)
          case atStart => exact ⟨m, Nat.le_refl _, rfl, And.intro rfl S5.out⟩
          case round =>
            clear f0 f1 f2 f3 f4 f5 f6
            obtain ⟨j, hjm, rfl, hrel⟩ := hrel
            have HBP := Lib.hid hrel.out.1
            have S6 := Lib.hid hrel.out.2
            clear hrel S5
            by_cases hj0 : j = 0
            · subst hj0
              have hh := Bag.cs3 S6.out 0 rfl
              have f0 := hh.1; have f1 := hh.2.1; have f2 := hh.2.2; clear hh
              have hh := HK.out _ S6.out.old
              have f3 := hh.1; have f4 := hh.2.1; have f5 := hh.2.2.1; have f6 := hh.2.2.2; clear hh
              go_upto_region 8 with fail
              clear f0 f1 f2 f3 f4 f5 f6
              refine wp_region_held_drew (S := (fun w' => (World.cell? w' ⟨w.heap.size, 0, none⟩ = some (.string name) ∧ World.cell? w' ⟨w.heap.size, 1, none⟩ = some (.slice (some ad) N c) ∧ World.cell? w' ⟨w.heap.size, 2, none⟩ = some (.int .i64 auto)) ∧ (World.cell? w' (ad.add (k * 4)) = some (.int .i64 kd) ∧ World.cell? w' (⟨(ad.add (k * 4)).block, (ad.add (k * 4)).off + 1, none⟩) = some (.int .i64 n) ∧ World.cell? w' (⟨(ad.add (k * 4)).block, (ad.add (k * 4)).off + 2, none⟩) = some (.string t) ∧ World.cell? w' (⟨(ad.add (k * 4)).block, (ad.add (k * 4)).off + 3, none⟩) = some (.slice ia l.length ic)))) (by kernel_rfl) ⟨Bag.cs3 (Bag.drew1 S6.out) 0 rfl, HK.out _ (Bag.drew1 S6.out).old⟩ (fun hS => ?_)
              have S7 := Lib.hid (show Sl.Sep w _ [L4.boxR w.heap.size 26 #[.string name, .slice (some ad) N c, .int .i64 auto], Sv.ownV 43 4 A C m (cellsI ys), Bag.bag (rowsI ys)] from Bag.drew1 S6.out)
              clear S6
              generalize World.drew _ = w3 at hS S7 ⊢
              refine tk 0 rfl ?_
              try simp only [zp0, zp1, zp2, zp3, zp4]
              refine tk 1 rfl ?_
              try simp only [zp0, zp1, zp2, zp3, zp4]
              refine tk 2 rfl ?_
              try simp only [zp0, zp1, zp2, zp3, zp4]
              refine sk 3 rfl ?_
              try simp only [zp0, zp1, zp2, zp3, zp4]
              refine sk 4 rfl ?_
              try simp only [zp0, zp1, zp2, zp3, zp4]
              refine sk 5 rfl ?_
              try simp only [zp0, zp1, zp2, zp3, zp4]
              refine sk 6 rfl ?_
              try simp only [zp0, zp1, zp2, zp3, zp4]
              refine sk 7 rfl ?_
              try simp only [zp0, zp1, zp2, zp3, zp4]
              refine sk 8 rfl ?_
              try simp only [zp0, zp1, zp2, zp3, zp4]
              refine sk 9 rfl ?_
              try simp only [zp0, zp1, zp2, zp3, zp4]
              refine sk 10 rfl ?_
              try simp only [zp0, zp1, zp2, zp3, zp4]
              refine sk 11 rfl ?_
              try simp only [zp0, zp1, zp2, zp3, zp4]
              refine sk 12 rfl ?_
              try simp only [zp0, zp1, zp2, zp3, zp4]
              refine sk 13 rfl ?_
              try simp only [zp0, zp1, zp2, zp3, zp4]
              refine Reg.skip_one (i := 14) rfl (by kernel_rfl) (by rfl) (by assumption) ?_
              try simp only [zp0, zp1, zp2, zp3, zp4]
              refine tk 15 rfl ?_
              try simp only [zp0, zp1, zp2, zp3, zp4]
              refine wpAnyH_done (by kernel_rfl) ?_ _
              have hh := Bag.cs3 S7.out 0 rfl
              have f0 := hh.1; have f1 := hh.2.1; have f2 := hh.2.2; clear hh
              have hh := HK.out _ S7.out.old
              have f3 := hh.1; have f4 := hh.2.1; have f5 := hh.2.2.1; have f6 := hh.2.2.2; clear hh
              go_wp2_with fail
              go_meet
              case rel => exact ⟨0, by omega, rfl, And.intro (by rw [HBP.out]; rfl) S7.out⟩
            · skip
              obtain ⟨i, rfl⟩ : ∃ i, j = i + 1 := ⟨j - 1, by omega⟩
              have hiy : i < ys.length := by have := HC.out.1; omega
              obtain ⟨ad2, x2, e2, hx2⟩ := readsI_some ((Sv.own_at S6.out 1 rfl).reads) i hiy
              subst e2
              obtain ⟨⟨kd2, n2, t2⟩, ia2, ic2, l2⟩ := x2
              have HFI2 := Lib.hid (show FitI ⟨⟨kd2, n2, t2⟩, l2⟩ from idx_take HF.out _ (by rw [← HC.out.2]; exact List.mem_of_getElem? (con_of hx2)))
              have HY2 := Lib.hid (show (conI ys)[i]? = some (⟨⟨kd2, n2, t2⟩, l2⟩ : It) from con_of hx2)
              have HX2 := Lib.hid hx2
              have hsub : ((i + 1 : Nat) : Int) - 1 = (i : Int) := by omega
              have hi0 : 0 < ((i + 1 : Nat) : Int) := by omega
              have him : (i : Int) < (m : Int) := by omega
              have hwr : IntKind.i64.wrap (i : Int) = (i : Int) := IntWalk.i64_in _ ⟨by omega, by have := HC.out.1; omega⟩
              obtain ⟨bl, hbl⟩ : ∃ b, less7 f.data.toList ⟨⟨kd, n, t⟩, l⟩ ⟨⟨kd2, n2, t2⟩, l2⟩ = b := ⟨_, rfl⟩
              have hh := Bag.cs3 S6.out 0 rfl
              have f0 := hh.1; have f1 := hh.2.1; have f2 := hh.2.2; clear hh
              have hh := HK.out _ S6.out.old
              have f3 := hh.1; have f4 := hh.2.1; have f5 := hh.2.2.1; have f6 := hh.2.2.2; clear hh
              have f7 : World.cell? _ (ad2.add (i * 4)) = some (.int .i64 kd2) := (readsI_at (Sv.own_at S6.out 1 rfl).reads i _ HX2.out).1
              have f8 : World.cell? _ (⟨(ad2.add (i * 4)).block, (ad2.add (i * 4)).off + 1, none⟩) = some (.int .i64 n2) := (readsI_at (Sv.own_at S6.out 1 rfl).reads i _ HX2.out).2.1
              have f9 : World.cell? _ (⟨(ad2.add (i * 4)).block, (ad2.add (i * 4)).off + 2, none⟩) = some (.string t2) := (readsI_at (Sv.own_at S6.out 1 rfl).reads i _ HX2.out).2.2.1
              have f10 : World.cell? _ (⟨(ad2.add (i * 4)).block, (ad2.add (i * 4)).off + 3, none⟩) = some (.slice ia2 l2.length ic2) := (readsI_at (Sv.own_at S6.out 1 rfl).reads i _ HX2.out).2.2.2
              go_upto_region 8 with fail
              clear f0 f1 f2 f3 f4 f5 f6 f7 f8 f9 f10
              refine wp_region_held_drew (S := (fun w' => (World.cell? w' ⟨w.heap.size, 0, none⟩ = some (.string name) ∧ World.cell? w' ⟨w.heap.size, 1, none⟩ = some (.slice (some ad) N c) ∧ World.cell? w' ⟨w.heap.size, 2, none⟩ = some (.int .i64 auto)) ∧ (World.cell? w' (ad.add (k * 4)) = some (.int .i64 kd) ∧ World.cell? w' (⟨(ad.add (k * 4)).block, (ad.add (k * 4)).off + 1, none⟩) = some (.int .i64 n) ∧ World.cell? w' (⟨(ad.add (k * 4)).block, (ad.add (k * 4)).off + 2, none⟩) = some (.string t) ∧ World.cell? w' (⟨(ad.add (k * 4)).block, (ad.add (k * 4)).off + 3, none⟩) = some (.slice ia l.length ic)) ∧ World.cell? w' (ad2.add (i * 4)) = some (.int .i64 kd2) ∧ World.cell? w' (⟨(ad2.add (i * 4)).block, (ad2.add (i * 4)).off + 1, none⟩) = some (.int .i64 n2) ∧ World.cell? w' (⟨(ad2.add (i * 4)).block, (ad2.add (i * 4)).off + 2, none⟩) = some (.string t2) ∧ World.cell? w' (⟨(ad2.add (i * 4)).block, (ad2.add (i * 4)).off + 3, none⟩) = some (.slice ia2 l2.length ic2))) (by kernel_rfl) ⟨Bag.cs3 (Bag.drew1 S6.out) 0 rfl, HK.out _ (Bag.drew1 S6.out).old, (readsI_at (Sv.own_at (Bag.drew1 S6.out) 1 rfl).reads i _ HX2.out).1, (readsI_at (Sv.own_at (Bag.drew1 S6.out) 1 rfl).reads i _ HX2.out).2.1, (readsI_at (Sv.own_at (Bag.drew1 S6.out) 1 rfl).reads i _ HX2.out).2.2.1, (readsI_at (Sv.own_at (Bag.drew1 S6.out) 1 rfl).reads i _ HX2.out).2.2.2⟩ (fun hS => ?_)
              have S7 := Lib.hid (show Sl.Sep w _ [L4.boxR w.heap.size 26 #[.string name, .slice (some ad) N c, .int .i64 auto], Sv.ownV 43 4 (some ad2) C m (cellsI ys), Bag.bag (rowsI ys)] from Bag.drew1 S6.out)
              clear S6
              generalize World.drew _ = w3 at hS S7 ⊢
              refine tk 0 rfl ?_
              try simp only [zp0, zp1, zp2, zp3, zp4]
              refine tk 1 rfl ?_
              try simp only [zp0, zp1, zp2, zp3, zp4]
              refine tk 2 rfl ?_
              try simp only [zp0, zp1, zp2, zp3, zp4]
              refine tk 3 rfl ?_
              try simp only [zp0, zp1, zp2, zp3, zp4]
              refine tk 4 rfl ?_
              try simp only [zp0, zp1, zp2, zp3, zp4]
              refine tk 5 rfl ?_
              try simp only [zp0, zp1, zp2, zp3, zp4]
              refine tk 6 rfl ?_
              try simp only [zp0, zp1, zp2, zp3, zp4]
              refine tk 7 rfl ?_
              try simp only [zp0, zp1, zp2, zp3, zp4]
              refine tk 8 rfl ?_
              try simp only [zp0, zp1, zp2, zp3, zp4]
              refine tk 9 rfl ?_
              try simp only [zp0, zp1, zp2, zp3, zp4]
              refine tk 10 rfl ?_
              try simp only [zp0, zp1, zp2, zp3, zp4]
              refine tk 11 rfl ?_
              try simp only [zp0, zp1, zp2, zp3, zp4]
              refine tk 12 rfl ?_
              try simp only [zp0, zp1, zp2, zp3, zp4]
              refine tk 13 rfl ?_
              try simp only [zp0, zp1, zp2, zp3, zp4]
              refine Reg.one_op (i := 14) rfl (by kernel_rfl) (fun K hK => ?_)
              have HLS := l7Less_any kd n kd2 n2 t t2 ia ia2 ic ic2 l l2 f HFI.out.text HFI2.out.text HFI.out.len HFI2.out.len _ (HXK.out _ S7.out.old) (((Bag.bag_rd S7.out 2 rfl).at_ (rowsI_mem HX2.out)).reads)
              rw [hbl] at HLS
              go_simp
              go_at_call 102
              refine HLS.mono ?_
              clear HLS
              rintro e w4 ⟨rfl, hb⟩
              have S8 := Lib.hid (S7.out.keep hb)
              clear S7
              clear hb
              go_wp2_with fail
              refine hK.out _ _ ⟨Bag.cs3 S8.out 0 rfl, HK.out _ S8.out.old, (readsI_at (Sv.own_at S8.out 1 rfl).reads i _ HX2.out).1, (readsI_at (Sv.own_at S8.out 1 rfl).reads i _ HX2.out).2.1, (readsI_at (Sv.own_at S8.out 1 rfl).reads i _ HX2.out).2.2.1, (readsI_at (Sv.own_at S8.out 1 rfl).reads i _ HX2.out).2.2.2⟩ (fun hS => ?_)
              clear hK K
              try simp only [zp0, zp1, zp2, zp3, zp4]
              refine tk 15 rfl ?_
              try simp only [zp0, zp1, zp2, zp3, zp4]
              refine wpAnyH_done (by kernel_rfl) ?_ _
              have hh := Bag.cs3 S8.out 0 rfl
              have f0 := hh.1; have f1 := hh.2.1; have f2 := hh.2.2; clear hh
              have hh := HK.out _ S8.out.old
              have f3 := hh.1; have f4 := hh.2.1; have f5 := hh.2.2.1; have f6 := hh.2.2.2; clear hh
              have f7 : World.cell? _ (ad2.add (i * 4)) = some (.int .i64 kd2) := (readsI_at (Sv.own_at S8.out 1 rfl).reads i _ HX2.out).1
              have f8 : World.cell? _ (⟨(ad2.add (i * 4)).block, (ad2.add (i * 4)).off + 1, none⟩) = some (.int .i64 n2) := (readsI_at (Sv.own_at S8.out 1 rfl).reads i _ HX2.out).2.1
              have f9 : World.cell? _ (⟨(ad2.add (i * 4)).block, (ad2.add (i * 4)).off + 2, none⟩) = some (.string t2) := (readsI_at (Sv.own_at S8.out 1 rfl).reads i _ HX2.out).2.2.1
              have f10 : World.cell? _ (⟨(ad2.add (i * 4)).block, (ad2.add (i * 4)).off + 3, none⟩) = some (.slice ia2 l2.length ic2) := (readsI_at (Sv.own_at S8.out 1 rfl).reads i _ HX2.out).2.2.2
              cases bl with
              | true =>
                go_wp2_with fail
                go_roundw
                case rel => exact ⟨i, by omega, by go_num, And.intro (by rw [HBP.out, backP_go HY2.out hbl]) S8.out⟩
                case measure => simp [intOf]
              | false =>
                go_wp2_with fail
                go_meet
                case rel => exact ⟨i + 1, by omega, rfl, And.intro (by rw [HBP.out]; exact backP_stop HY2.out hbl) S8.out⟩
        case rest =>
          obtain ⟨j, hjm, rfl, hq⟩ := hcut
          obtain ⟨ww, hww, hS⟩ : ∃ u, u = _ ∧ Sl.Sep w u [L4.boxR w.heap.size 26 #[.string name, .slice (some ad) N c, .int .i64 auto], Sv.ownV 43 4 A C m (cellsI ys), Bag.bag (rowsI ys)] := ⟨_, rfl, hq.out.2⟩
          subst hww
          have HBP := Lib.hid hq.out.1
          have S6 := Lib.hid hS
          clear hq hS S5
          have HML := Lib.hid HC.out.1
          have hjy : j ≤ ys.length := by have := HML.out; omega
          by_cases hjl : j = m
          · subst hjl
            have hcap : j ≤ C := by have := (Sv.own_at S6.out 1 rfl).cap; omega
            have hck : (j : Int) ≤ (C : Int) := by omega
            have S7 := Lib.hid (show Sl.Sep w _ [L4.boxR w.heap.size 26 #[.string name, .slice (some ad) N c, .int .i64 auto], Sv.ownV 43 4 A C j (cellsI ys), Bag.bag (rowsI ys), Sv.ownV 43 4 (some ⟨ww.heap.size, 0, none⟩) 0 0 (cellsI [])] from Sv.push_own S6.out ((Below.refl _ _).alloc (Nat.le_refl _) _) (OwnV.madeAt ww 43 4 0 ww.heap.size #[] rfl (Nat.le_refl _) rfl (by decide)))
            clear S6
            have hh := Bag.cs3 S7.out 0 rfl
            have f0 := hh.1; have f1 := hh.2.1; have f2 := hh.2.2; clear hh
            have hh := HK.out _ S7.out.old
            have f3 := hh.1; have f4 := hh.2.1; have f5 := hh.2.2.1; have f6 := hh.2.2.2; clear hh
            go_upto_region 11 with (at_builtin; refine L5.wpList_append_v S7.out 3 rfl rfl _ _ 24 (by rfl) i0 (.agg #[.int .i64 0, .int .i64 0, .string ⟨#[]⟩, .slice none 0 0]) 56 Try.underlying24 HI.out.1 HI.out.2.1 HI.out.2.2.1 HI.out.2.2.2 rfl (by omega) _ (by rfl) rfl _ _ j _ _ (cellsI (ys.take j)) (by rfl) rfl (reads_head (Sv.own_at S7.out 1 rfl).reads j) (by rw [cellsI_length, List.length_take, Nat.min_eq_left hjy]) (cellsI_one _) (by unfold maxLen; omega) (by omega) ?_; intro a2' c2' w3 hA)
            clear f0 f1 f2 f3 f4 f5 f6
            have S8 := Lib.hid (show Sl.Sep w w3 [L4.boxR w.heap.size 26 #[.string name, .slice (some ad) N c, .int .i64 auto], Sv.ownV 43 4 A C j (cellsI ys), Bag.bag (rowsI ys), Sv.ownV 43 4 a2' c2' j (cellsI (ys.take j))] from (by have h := hA; first | exact h | (rw [Nat.zero_add] at h; exact h)))
            clear S7
            clear hA
            have hh := Bag.cs3 S8.out 0 rfl
            have f0 := hh.1; have f1 := hh.2.1; have f2 := hh.2.2; clear hh
            have hh := HK.out _ S8.out.old
            have f3 := hh.1; have f4 := hh.2.1; have f5 := hh.2.2.1; have f6 := hh.2.2.2; clear hh
            go_wp2_with fail
            go_at_call 91
            refine (HCI.out _ S8.out.old).mono ?_
            rintro e w4 ⟨a1, c1, rfl, ho, hb⟩
            clear f0 f1 f2 f3 f4 f5 f6
            have S9 := Lib.hid (show Sl.Sep w _ [L4.boxR w.heap.size 26 #[.string name, .slice (some ad) N c, .int .i64 auto], Sv.ownV 43 4 A C j (cellsI ys), Bag.bag (rowsI ys), Sv.ownV 43 4 a2' c2' j (cellsI (ys.take j)), Bag.bag ([(LI.mk ⟨kd, n, t⟩ a1 c1 l).row])] from Bag.push_bag S8.out hb ho)
            clear S8
            clear hb ho
            have hh := Bag.cs3 S9.out 0 rfl
            have f0 := hh.1; have f1 := hh.2.1; have f2 := hh.2.2; clear hh
            have hh := HK.out _ S9.out.old
            have f3 := hh.1; have f4 := hh.2.1; have f5 := hh.2.2.1; have f6 := hh.2.2.2; clear hh
            have S10 := Lib.hid (show Sl.Sep w _ [L4.boxR w.heap.size 26 #[.string name, .slice (some ad) N c, .int .i64 auto], Sv.ownV 43 4 A C j (cellsI ys), Bag.bag (rowsI ys), Sv.ownV 43 4 a2' c2' j (cellsI (ys.take j)), Bag.bag ([(LI.mk ⟨kd, n, t⟩ a1 c1 l).row]), Sv.ownV 43 4 (some ⟨w4.heap.size, 0, none⟩) 1 1 (cellsI [⟨⟨kd, n, t⟩, a1, c1, l⟩])] from Sv.push_own S9.out ((Below.refl _ _).alloc (Nat.le_refl _) _) (OwnV.madeAt w4 43 4 1 w4.heap.size #[.int .i64 kd, .int .i64 n, .string t, .slice a1 l.length c1] rfl (Nat.le_refl _) rfl (by decide)))
            clear S9
            go_upto_region 12 with (at_builtin; refine L5.wpList_append_v S10.out 3 rfl rfl _ _ 24 (by rfl) i0 (.agg #[.int .i64 0, .int .i64 0, .string ⟨#[]⟩, .slice none 0 0]) 56 Try.underlying24 HI.out.1 HI.out.2.1 HI.out.2.2.1 HI.out.2.2.2 rfl (by omega) _ (by rfl) rfl _ _ 1 _ _ (cellsI [⟨⟨kd, n, t⟩, a1, c1, l⟩]) (by rfl) rfl (Sv.own_at S10.out 5 rfl).reads rfl (cellsI_one _) (by unfold maxLen; omega) (by omega) ?_; intro a3' c3' w5 hA)
            have S11 := Lib.hid (show Sl.Sep w _ [L4.boxR w.heap.size 26 #[.string name, .slice (some ad) N c, .int .i64 auto], Sv.ownV 43 4 A C j (cellsI ys), Bag.bag (rowsI ys), Sv.ownV 43 4 a3' c3' (j + 1) (cellsI (ys.take j) ++ (cellsI [⟨⟨kd, n, t⟩, a1, c1, l⟩])), Bag.bag ([(LI.mk ⟨kd, n, t⟩ a1 c1 l).row]), Sv.ownV 43 4 (some ⟨w4.heap.size, 0, none⟩) 1 1 (cellsI [⟨⟨kd, n, t⟩, a1, c1, l⟩])] from hA)
            clear S10
            clear hA
            clear f0 f1 f2 f3 f4 f5 f6
            have S12 := Lib.hid (show Sl.Sep w _ [L4.boxR w.heap.size 26 #[.string name, .slice (some ad) N c, .int .i64 auto], Sv.ownV 43 4 A C j (cellsI ys), Bag.bag (rowsI ys), Sv.ownV 43 4 a3' c3' (j + 1) (cellsI (ys.take j) ++ (cellsI [⟨⟨kd, n, t⟩, a1, c1, l⟩])), Bag.bag ([(LI.mk ⟨kd, n, t⟩ a1 c1 l).row])] from Bag.take S11.out [0, 1, 2, 3, 4] (by rfl) (by decide))
            clear S11
            go_wp2_with (at_builtin; refine L5.wpList_append_v S12.out 3 rfl rfl _ _ 24 (by rfl) i0 (.agg #[.int .i64 0, .int .i64 0, .string ⟨#[]⟩, .slice none 0 0]) 56 Try.underlying24 HI.out.1 HI.out.2.1 HI.out.2.2.1 HI.out.2.2.2 rfl (by omega) _ (by rfl) rfl _ _ 0 _ _ (cellsI []) (by rfl) rfl (Sl.Reads.nil (B := 0)) rfl (cellsI_one _) (by unfold maxLen; omega) (by omega) ?_; intro a4' c4' w6 hA)
            have S13 := Lib.hid (show Sl.Sep w _ [L4.boxR w.heap.size 26 #[.string name, .slice (some ad) N c, .int .i64 auto], Sv.ownV 43 4 A C j (cellsI ys), Bag.bag (rowsI ys), Sv.ownV 43 4 a4' c4' (j + 1 + 0) ((cellsI (ys.take j) ++ (cellsI [⟨⟨kd, n, t⟩, a1, c1, l⟩])) ++ cellsI []), Bag.bag ([(LI.mk ⟨kd, n, t⟩ a1 c1 l).row])] from hA)
            clear S12
            clear hA
            have S14 := Lib.hid (show Sl.Sep w _ [L4.boxR w.heap.size 26 #[.string name, .slice (some ad) N c, .int .i64 auto], Sv.ownV 43 4 a4' c4' (j + 1 + 0) ((cellsI (ys.take j) ++ (cellsI [⟨⟨kd, n, t⟩, a1, c1, l⟩])) ++ cellsI []), Bag.bag (rowsI ys), Bag.bag ([(LI.mk ⟨kd, n, t⟩ a1 c1 l).row])] from Bag.take S13.out [0, 3, 2, 4] (by rfl) (by decide))
            clear S13
            have S15 := Lib.hid (show Sl.Sep w _ [L4.boxR w.heap.size 26 #[.string name, .slice (some ad) N c, .int .i64 auto], Sv.ownV 43 4 a4' c4' (j + 1 + 0) ((cellsI (ys.take j) ++ (cellsI [⟨⟨kd, n, t⟩, a1, c1, l⟩])) ++ cellsI []), Bag.bag (rowsI ys ++ ([(LI.mk ⟨kd, n, t⟩ a1 c1 l).row])), Bag.bag ([])] from Bag.bag_join S14.out 2 3 (by decide) rfl rfl)
            clear S14
            have S16 := Lib.hid (show Sl.Sep w _ [L4.boxR w.heap.size 26 #[.string name, .slice (some ad) N c, .int .i64 auto], Sv.ownV 43 4 a4' c4' (j + 1 + 0) ((cellsI (ys.take j) ++ (cellsI [⟨⟨kd, n, t⟩, a1, c1, l⟩])) ++ cellsI []), Bag.bag (rowsI ys ++ ([(LI.mk ⟨kd, n, t⟩ a1 c1 l).row]))] from Bag.take S15.out [0, 1, 2] (by rfl) (by decide))
            clear S15
            have S17 := Lib.hid (show Sl.Sep w _ [L4.boxR w.heap.size 26 #[.string name, .slice (some ad) N c, .int .i64 auto], Sv.ownV 43 4 a4' c4' (j + 1 + 0) ((cellsI (ys.take j) ++ (cellsI [⟨⟨kd, n, t⟩, a1, c1, l⟩])) ++ cellsI []), Bag.bag (rowsI (ys.take j ++ ⟨⟨kd, n, t⟩, a1, c1, l⟩ :: ys.drop j))] from Bag.bag_perm S16.out 2 rfl (rowsI_ins ys j ⟨⟨kd, n, t⟩, a1, c1, l⟩))
            clear S16
            have hlz : (ys.take j ++ ⟨⟨kd, n, t⟩, a1, c1, l⟩ :: ys.drop j).length = j + 1 := by rw [List.length_append, List.length_cons, List.length_take, List.length_drop]; have := HML.out; omega
            have hcz : cellsI (ys.take j ++ ⟨⟨kd, n, t⟩, a1, c1, l⟩ :: ys.drop j) = (cellsI (ys.take j) ++ (cellsI [⟨⟨kd, n, t⟩, a1, c1, l⟩])) ++ cellsI [] := by rw [cellsI_append, cellsI_cons]; rw [List.drop_of_length_le (show ys.length ≤ j by have := HML.out; omega)]; simp [cellsI, LI.cells]
            have HCZ := Lib.hid hcz
            clear hcz
            have S18 := Lib.hid (show Sl.Sep w _ [L4.boxR w.heap.size 26 #[.string name, .slice (some ad) N c, .int .i64 auto], Sv.ownV 43 4 a4' c4' (j + 1 + 0) (cellsI (ys.take j ++ ⟨⟨kd, n, t⟩, a1, c1, l⟩ :: ys.drop j)), Bag.bag (rowsI (ys.take j ++ ⟨⟨kd, n, t⟩, a1, c1, l⟩ :: ys.drop j))] from (by rw [HCZ.out]; exact S17.out))
            clear S17
            have S19 := Lib.hid (show Sl.Sep w _ [L4.boxR w.heap.size 26 #[.string name, .slice (some ad) N c, .int .i64 auto], Sv.ownV 43 4 a4' c4' (j + 1) (cellsI (ys.take j ++ ⟨⟨kd, n, t⟩, a1, c1, l⟩ :: ys.drop j)), Bag.bag (rowsI (ys.take j ++ ⟨⟨kd, n, t⟩, a1, c1, l⟩ :: ys.drop j))] from S18.out)
            clear S18
            go_roundw
            case rel =>
              refine ⟨k + 1, j + 1, a4', c4', ys.take j ++ ⟨⟨kd, n, t⟩, a1, c1, l⟩ :: ys.drop j, by omega, by go_num, ?_, by omega, And.intro ⟨hlz.symm, ?_⟩ S19.out⟩
              · first | rfl | simp
              · rw [HT.out, conI_ins, HC.out.2]; unfold insX; rw [← HC.out.2, conI_length, ← HML.out, HBP.out]; rfl
            case measure => simp [intOf]; omega
          · skip
            obtain ⟨g9, rfl⟩ : ∃ g, A = some ⟨g, 0, none⟩ := by
              rcases (Sv.own_at S6.out 1 rfl).form with ⟨_, h0, _⟩ | ⟨g, e, _⟩
              · omega
              · exact ⟨g, e⟩
            have hcap : j ≤ C := by have := (Sv.own_at S6.out 1 rfl).cap; omega
            have hck : (j : Int) ≤ (C : Int) := by omega
            have S7 := Lib.hid (show Sl.Sep w _ [L4.boxR w.heap.size 26 #[.string name, .slice (some ad) N c, .int .i64 auto], Sv.ownV 43 4 (some ⟨g9, 0, none⟩) C m (cellsI ys), Bag.bag (rowsI ys), Sv.ownV 43 4 (some ⟨ww.heap.size, 0, none⟩) 0 0 (cellsI [])] from Sv.push_own S6.out ((Below.refl _ _).alloc (Nat.le_refl _) _) (OwnV.madeAt ww 43 4 0 ww.heap.size #[] rfl (Nat.le_refl _) rfl (by decide)))
            clear S6
            have hh := Bag.cs3 S7.out 0 rfl
            have f0 := hh.1; have f1 := hh.2.1; have f2 := hh.2.2; clear hh
            have hh := HK.out _ S7.out.old
            have f3 := hh.1; have f4 := hh.2.1; have f5 := hh.2.2.1; have f6 := hh.2.2.2; clear hh
            go_upto_region 11 with (at_builtin; refine L5.wpList_append_v S7.out 3 rfl rfl _ _ 24 (by rfl) i0 (.agg #[.int .i64 0, .int .i64 0, .string ⟨#[]⟩, .slice none 0 0]) 56 Try.underlying24 HI.out.1 HI.out.2.1 HI.out.2.2.1 HI.out.2.2.2 rfl (by omega) _ (by rfl) rfl _ _ j _ _ (cellsI (ys.take j)) (by rfl) rfl (reads_head (Sv.own_at S7.out 1 rfl).reads j) (by rw [cellsI_length, List.length_take, Nat.min_eq_left hjy]) (cellsI_one _) (by unfold maxLen; omega) (by omega) ?_; intro a2' c2' w3 hA)
            clear f0 f1 f2 f3 f4 f5 f6
            have S8 := Lib.hid (show Sl.Sep w w3 [L4.boxR w.heap.size 26 #[.string name, .slice (some ad) N c, .int .i64 auto], Sv.ownV 43 4 (some ⟨g9, 0, none⟩) C m (cellsI ys), Bag.bag (rowsI ys), Sv.ownV 43 4 a2' c2' j (cellsI (ys.take j))] from (by have h := hA; first | exact h | (rw [Nat.zero_add] at h; exact h)))
            clear S7
            clear hA
            have hh := Bag.cs3 S8.out 0 rfl
            have f0 := hh.1; have f1 := hh.2.1; have f2 := hh.2.2; clear hh
            have hh := HK.out _ S8.out.old
            have f3 := hh.1; have f4 := hh.2.1; have f5 := hh.2.2.1; have f6 := hh.2.2.2; clear hh
            go_wp2_with fail
            go_at_call 91
            refine (HCI.out _ S8.out.old).mono ?_
            rintro e w4 ⟨a1, c1, rfl, ho, hb⟩
            clear f0 f1 f2 f3 f4 f5 f6
            have S9 := Lib.hid (show Sl.Sep w _ [L4.boxR w.heap.size 26 #[.string name, .slice (some ad) N c, .int .i64 auto], Sv.ownV 43 4 (some ⟨g9, 0, none⟩) C m (cellsI ys), Bag.bag (rowsI ys), Sv.ownV 43 4 a2' c2' j (cellsI (ys.take j)), Bag.bag ([(LI.mk ⟨kd, n, t⟩ a1 c1 l).row])] from Bag.push_bag S8.out hb ho)
            clear S8
            clear hb ho
            have hh := Bag.cs3 S9.out 0 rfl
            have f0 := hh.1; have f1 := hh.2.1; have f2 := hh.2.2; clear hh
            have hh := HK.out _ S9.out.old
            have f3 := hh.1; have f4 := hh.2.1; have f5 := hh.2.2.1; have f6 := hh.2.2.2; clear hh
            have S10 := Lib.hid (show Sl.Sep w _ [L4.boxR w.heap.size 26 #[.string name, .slice (some ad) N c, .int .i64 auto], Sv.ownV 43 4 (some ⟨g9, 0, none⟩) C m (cellsI ys), Bag.bag (rowsI ys), Sv.ownV 43 4 a2' c2' j (cellsI (ys.take j)), Bag.bag ([(LI.mk ⟨kd, n, t⟩ a1 c1 l).row]), Sv.ownV 43 4 (some ⟨w4.heap.size, 0, none⟩) 1 1 (cellsI [⟨⟨kd, n, t⟩, a1, c1, l⟩])] from Sv.push_own S9.out ((Below.refl _ _).alloc (Nat.le_refl _) _) (OwnV.madeAt w4 43 4 1 w4.heap.size #[.int .i64 kd, .int .i64 n, .string t, .slice a1 l.length c1] rfl (Nat.le_refl _) rfl (by decide)))
            clear S9
            go_upto_region 12 with (at_builtin; refine L5.wpList_append_v S10.out 3 rfl rfl _ _ 24 (by rfl) i0 (.agg #[.int .i64 0, .int .i64 0, .string ⟨#[]⟩, .slice none 0 0]) 56 Try.underlying24 HI.out.1 HI.out.2.1 HI.out.2.2.1 HI.out.2.2.2 rfl (by omega) _ (by rfl) rfl _ _ 1 _ _ (cellsI [⟨⟨kd, n, t⟩, a1, c1, l⟩]) (by rfl) rfl (Sv.own_at S10.out 5 rfl).reads rfl (cellsI_one _) (by unfold maxLen; omega) (by omega) ?_; intro a3' c3' w5 hA)
            have S11 := Lib.hid (show Sl.Sep w _ [L4.boxR w.heap.size 26 #[.string name, .slice (some ad) N c, .int .i64 auto], Sv.ownV 43 4 (some ⟨g9, 0, none⟩) C m (cellsI ys), Bag.bag (rowsI ys), Sv.ownV 43 4 a3' c3' (j + 1) (cellsI (ys.take j) ++ (cellsI [⟨⟨kd, n, t⟩, a1, c1, l⟩])), Bag.bag ([(LI.mk ⟨kd, n, t⟩ a1 c1 l).row]), Sv.ownV 43 4 (some ⟨w4.heap.size, 0, none⟩) 1 1 (cellsI [⟨⟨kd, n, t⟩, a1, c1, l⟩])] from hA)
            clear S10
            clear hA
            clear f0 f1 f2 f3 f4 f5 f6
            have S12 := Lib.hid (show Sl.Sep w _ [L4.boxR w.heap.size 26 #[.string name, .slice (some ad) N c, .int .i64 auto], Sv.ownV 43 4 (some ⟨g9, 0, none⟩) C m (cellsI ys), Bag.bag (rowsI ys), Sv.ownV 43 4 a3' c3' (j + 1) (cellsI (ys.take j) ++ (cellsI [⟨⟨kd, n, t⟩, a1, c1, l⟩])), Bag.bag ([(LI.mk ⟨kd, n, t⟩ a1 c1 l).row])] from Bag.take S11.out [0, 1, 2, 3, 4] (by rfl) (by decide))
            clear S11
            have hcl := (Sv.own_at S12.out 1 rfl).cap
            have hkN : (j : Int) ≤ (m : Int) := by omega
            have hNc : (m : Int) ≤ (C : Int) := by omega
            go_wp2_with (at_builtin; refine L5.wpList_append_v S12.out 3 rfl rfl _ _ 24 (by rfl) i0 (.agg #[.int .i64 0, .int .i64 0, .string ⟨#[]⟩, .slice none 0 0]) 56 Try.underlying24 HI.out.1 HI.out.2.1 HI.out.2.2.1 HI.out.2.2.2 rfl (by omega) _ (by rfl) rfl _ _ (m - j) _ _ (cellsI (ys.drop j)) (by rfl) rfl (reads_rest2 (Sv.own_at S12.out 1 rfl).reads j) (by rw [cellsI_length, List.length_drop]; have := HML.out; omega) (cellsI_one _) (by unfold maxLen; omega) (by omega) ?_; intro a4' c4' w6 hA)
            have S13 := Lib.hid (show Sl.Sep w _ [L4.boxR w.heap.size 26 #[.string name, .slice (some ad) N c, .int .i64 auto], Sv.ownV 43 4 (some ⟨g9, 0, none⟩) C m (cellsI ys), Bag.bag (rowsI ys), Sv.ownV 43 4 a4' c4' (j + 1 + (m - j)) ((cellsI (ys.take j) ++ (cellsI [⟨⟨kd, n, t⟩, a1, c1, l⟩])) ++ cellsI (ys.drop j)), Bag.bag ([(LI.mk ⟨kd, n, t⟩ a1 c1 l).row])] from hA)
            clear S12
            clear hA
            have S14 := Lib.hid (show Sl.Sep w _ [L4.boxR w.heap.size 26 #[.string name, .slice (some ad) N c, .int .i64 auto], Sv.ownV 43 4 a4' c4' (j + 1 + (m - j)) ((cellsI (ys.take j) ++ (cellsI [⟨⟨kd, n, t⟩, a1, c1, l⟩])) ++ cellsI (ys.drop j)), Bag.bag (rowsI ys), Bag.bag ([(LI.mk ⟨kd, n, t⟩ a1 c1 l).row])] from Bag.take S13.out [0, 3, 2, 4] (by rfl) (by decide))
            clear S13
            have S15 := Lib.hid (show Sl.Sep w _ [L4.boxR w.heap.size 26 #[.string name, .slice (some ad) N c, .int .i64 auto], Sv.ownV 43 4 a4' c4' (j + 1 + (m - j)) ((cellsI (ys.take j) ++ (cellsI [⟨⟨kd, n, t⟩, a1, c1, l⟩])) ++ cellsI (ys.drop j)), Bag.bag (rowsI ys ++ ([(LI.mk ⟨kd, n, t⟩ a1 c1 l).row])), Bag.bag ([])] from Bag.bag_join S14.out 2 3 (by decide) rfl rfl)
            clear S14
            have S16 := Lib.hid (show Sl.Sep w _ [L4.boxR w.heap.size 26 #[.string name, .slice (some ad) N c, .int .i64 auto], Sv.ownV 43 4 a4' c4' (j + 1 + (m - j)) ((cellsI (ys.take j) ++ (cellsI [⟨⟨kd, n, t⟩, a1, c1, l⟩])) ++ cellsI (ys.drop j)), Bag.bag (rowsI ys ++ ([(LI.mk ⟨kd, n, t⟩ a1 c1 l).row]))] from Bag.take S15.out [0, 1, 2] (by rfl) (by decide))
            clear S15
            have S17 := Lib.hid (show Sl.Sep w _ [L4.boxR w.heap.size 26 #[.string name, .slice (some ad) N c, .int .i64 auto], Sv.ownV 43 4 a4' c4' (j + 1 + (m - j)) ((cellsI (ys.take j) ++ (cellsI [⟨⟨kd, n, t⟩, a1, c1, l⟩])) ++ cellsI (ys.drop j)), Bag.bag (rowsI (ys.take j ++ ⟨⟨kd, n, t⟩, a1, c1, l⟩ :: ys.drop j))] from Bag.bag_perm S16.out 2 rfl (rowsI_ins ys j ⟨⟨kd, n, t⟩, a1, c1, l⟩))
            clear S16
            have hlz : (ys.take j ++ ⟨⟨kd, n, t⟩, a1, c1, l⟩ :: ys.drop j).length = j + 1 + (m - j) := by rw [List.length_append, List.length_cons, List.length_take, List.length_drop]; have := HML.out; omega
            have hcz : cellsI (ys.take j ++ ⟨⟨kd, n, t⟩, a1, c1, l⟩ :: ys.drop j) = (cellsI (ys.take j) ++ (cellsI [⟨⟨kd, n, t⟩, a1, c1, l⟩])) ++ cellsI (ys.drop j) := by rw [cellsI_append, cellsI_cons]; simp [cellsI, LI.cells]
            have HCZ := Lib.hid hcz
            clear hcz
            have S18 := Lib.hid (show Sl.Sep w _ [L4.boxR w.heap.size 26 #[.string name, .slice (some ad) N c, .int .i64 auto], Sv.ownV 43 4 a4' c4' (j + 1 + (m - j)) (cellsI (ys.take j ++ ⟨⟨kd, n, t⟩, a1, c1, l⟩ :: ys.drop j)), Bag.bag (rowsI (ys.take j ++ ⟨⟨kd, n, t⟩, a1, c1, l⟩ :: ys.drop j))] from (by rw [HCZ.out]; exact S17.out))
            clear S17
            go_roundw
            case rel =>
              refine ⟨k + 1, j + 1 + (m - j), a4', c4', ys.take j ++ ⟨⟨kd, n, t⟩, a1, c1, l⟩ :: ys.drop j, by omega, by go_num, ?_, by omega, And.intro ⟨hlz.symm, ?_⟩ S18.out⟩
              · first | rfl | simp
              · rw [HT.out, conI_ins, HC.out.2]; unfold insX; rw [← HC.out.2, conI_length, ← HML.out, HBP.out]; rfl
            case measure => simp [intOf]; omega
    · skip
      have hh := Bag.cs3 S4.out 0 rfl
      have f0 := hh.1; have f1 := hh.2.1; have f2 := hh.2.2; clear hh
      go_wp2_with fail
      go_ret
      obtain rfl : k = N := by omega
      obtain ⟨hm, hc⟩ := HC.out
      rw [List.take_of_length_le (show (conI xs).length ≤ k by have := HN.out; simp; omega)] at hc
      subst hm
      have S90 := Lib.hid (Bag.bag_of_one S4.out 1 (r := rowI A C ys) rfl)
      have S91 := Lib.hid (Bag.bag_join S90.out 1 2 (by decide) rfl rfl)
      exact ⟨A, C, ys, rfl, hc, Bag.bag_from S91.out 1 rfl, S91.out.old⟩
end Go.Proofs.Ytmnedjhfibmcnaa.L7

/-
  The contracts of chapter 7's functions of the specification, IV: UniqueFault, WalkStore. Conditions: keys' texts of at most 2^40 bytes, at most 2^20 fields and items. (Written by my program gen_l7d.py.)
-/
namespace Go.Proofs.Ytmnedjhfibmcnaa.L7
set_option maxRecDepth 100000
open L4 (K isK cmpK R inR encU)
open L5 (F isR isN cellsF encR eqR Small getO getN getB)
open L6
open Go.ChangeShapes Go.WideShapes Go.ChangeAt Go.RowKit Mem Sl Ex L2 Sv Bag
set_option linter.unusedVariables false
set_option linter.unusedSimpArgs false

theorem adj_at {t : List UInt8} {l : List It} {j : Nat} {a b : It} (h1 : l[j]? = some a) (h2 : l[j + 1]? = some b) : adj7 t l j = (getN a.l t == getN b.l t) := by
  unfold adj7
  rw [h1, h2]
theorem keyAt_of {l : List It} {j : Nat} {a : It} (h : l[j]? = some a) : keyAt l j = a.k := by unfold keyAt; rw [h]
theorem uf_no {t : List UInt8} {l : List It} (h : ufO t l = none) : ufA t l = zK ∧ ufZ t l = zK ∧ ufB t l = false := by unfold ufA ufZ ufB; rw [h]; exact ⟨rfl, rfl, rfl⟩
theorem uf_yes {t : List UInt8} {l : List It} {j : Nat} {a b : It} (h : ufO t l = some j) (h1 : l[j]? = some a) (h2 : l[j + 1]? = some b) : ufA t l = a.k ∧ ufZ t l = b.k ∧ ufB t l = true := by
  unfold ufA ufZ ufB
  rw [h]
  exact ⟨keyAt_of h1, keyAt_of h2, rfl⟩
theorem FitC.to {x : Cu} (h : FitC x) (k : K) (hk : k.text.size ≤ 281474976710656) : FitC (x.to k) := ⟨h.lo, h.hi, hk⟩
set_option maxHeartbeats 8000000 in
theorem specUniqueFault_any (y : LS) (f : ByteArray) (hf : FitS y.con) (w : World) (hr : RowsRd w w.heap.size y.rows) :
    Calls Try.prog 31 #[y.v, .string f] w fun e w' => e = .returned (.tuple #[(ufA f.data.toList (idxI y.con.items f.data.toList)).v, (ufZ f.data.toList (idxI y.con.items f.data.toList)).v, .bool (ufB f.data.toList (idxI y.con.items f.data.toList))]) ∧ Below w.heap.size w w' := by
  have HIX := Lib.hid (fun w' (h : Below w.heap.size w w') => specIndexOn_any y f hf w' ((hr.below h).more h.size))
  have HFX := Lib.hid (fit_idx (t := f.data.toList) hf.items)
  have HLN := Lib.hid (Nat.le_trans (idxI_len y.con.items f.data.toList) hf.len)
  obtain ⟨L, hL⟩ : ∃ u, idxI y.con.items f.data.toList = u := ⟨_, rfl⟩
  rw [hL] at HIX HFX HLN ⊢
  clear hL
  obtain ⟨name, a, c, xs, auto⟩ := y
  dsimp only [LS.v, LS.cells] at HIX ⊢
  have S1 := Lib.hid (show Sl.Sep w (((w.alloc (.cells #[.string name, .slice a xs.length c, .int .i64 auto] 26)).alloc (.cells #[.int .i64 0, .int .i64 0, .string ⟨#[]⟩] 28)).alloc (.cells #[.int .i64 0, .int .i64 0, .string ⟨#[]⟩] 28)) [L4.boxR w.heap.size 26 #[.string name, .slice a xs.length c, .int .i64 auto], L4.boxR (w.heap.size + 1) 28 #[.int .i64 0, .int .i64 0, .string ⟨#[]⟩], L4.boxR (w.heap.size + 1 + 1) 28 #[.int .i64 0, .int .i64 0, .string ⟨#[]⟩]] from L4.push_box (L4.push_box (L4.push_box (Sl.Sep.start w) 26 #[.string name, .slice a xs.length c, .int .i64 auto] (w.heap.size) (by simp)) 28 #[.int .i64 0, .int .i64 0, .string ⟨#[]⟩] (w.heap.size + 1) (by simp)) 28 #[.int .i64 0, .int .i64 0, .string ⟨#[]⟩] (w.heap.size + 1 + 1) (by simp))
  obtain ⟨wa, hwa⟩ : ∃ u, u = (((w.alloc (.cells #[.string name, .slice a xs.length c, .int .i64 auto] 26)).alloc (.cells #[.int .i64 0, .int .i64 0, .string ⟨#[]⟩] 28)).alloc (.cells #[.int .i64 0, .int .i64 0, .string ⟨#[]⟩] 28)) := ⟨_, rfl⟩
  rw [← hwa] at S1
  go_enter Try.func31, Try.ntmps31
  go_upto_region 1 with fail
  rw [← hwa]
  clear hwa
  have hh := Bag.cs3 S1.out 0 rfl
  have f0 := hh.1; have f1 := hh.2.1; have f2 := hh.2.2; clear hh
  go_wp2_with fail
  go_at_call 47
  refine (HIX.out _ S1.out.old).mono ?_
  rintro e w1 ⟨la, lc, ys, rfl, hys, ho, hb⟩
  clear f0 f1 f2
  have S2 := Lib.hid (show Sl.Sep w _ [L4.boxR w.heap.size 26 #[.string name, .slice a xs.length c, .int .i64 auto], L4.boxR (w.heap.size + 1) 28 #[.int .i64 0, .int .i64 0, .string ⟨#[]⟩], L4.boxR (w.heap.size + 1 + 1) 28 #[.int .i64 0, .int .i64 0, .string ⟨#[]⟩], Bag.bag (rowI la lc ys :: rowsI ys)] from Bag.push_bag S1.out hb ho)
  clear S1
  clear hb ho
  have HY := Lib.hid hys
  clear hys
  obtain ⟨N, hN⟩ : ∃ N, N = ys.length := ⟨_, rfl⟩
  rw [← hN]
  have HN := Lib.hid hN
  have hNl : N ≤ 1048576 := by have h := HLN.out; rw [← HY.out, conI_length] at h; omega
  clear hN
  go_wp2_with fail
  go_loopw [8] (fun i wr => ∃ j : Nat, (j + 1 ≤ N ∨ j = 0) ∧ i = .int .i64 ((j + 1 : Nat) : Int) ∧ Hid ((∀ q, q < j → adj7 f.data.toList (conI ys) q = false) ∧ Sl.Sep w wr [L4.boxR w.heap.size 26 #[.string name, .slice a xs.length c, .int .i64 auto], L4.boxR (w.heap.size + 1) 28 #[.int .i64 0, .int .i64 0, .string ⟨#[]⟩], L4.boxR (w.heap.size + 1 + 1) 28 #[.int .i64 0, .int .i64 0, .string ⟨#[]⟩], Bag.bag (rowI la lc ys :: rowsI ys)])) (fun i _ => N - (intOf i).toNat)
  case atStart => exact ⟨0, .inr rfl, rfl, And.intro (fun q hq => absurd hq (by omega)) S2.out⟩
  case round =>
    obtain ⟨j, hj, rfl, hrel⟩ := hrel
    have HA := Lib.hid hrel.out.1
    have S3 := Lib.hid hrel.out.2
    clear hrel S2
    by_cases hlt : ((j + 1 : Nat) : Int) < (N : Int)
    · skip
      obtain ⟨ad, x1, e', hx1⟩ := readsI_some (LS.outer (s := ⟨⟨#[]⟩, la, lc, ys, 0⟩) (Bag.bag_rd S3.out 3 rfl)) j (by show j < ys.length; have := HN.out; omega)
      have e'' : la = some ad := e'
      subst e''
      clear e'
      obtain ⟨ad_, x2, e_, hx2⟩ := readsI_some (LS.outer (s := ⟨⟨#[]⟩, some ad, lc, ys, 0⟩) (Bag.bag_rd S3.out 3 rfl)) (j + 1) (by show j + 1 < ys.length; have := HN.out; omega)
      clear ad_ e_
      obtain ⟨⟨kd, n, t⟩, ia, ic, l⟩ := x1
      obtain ⟨⟨kd2, n2, t2⟩, ia2, ic2, l2⟩ := x2
      have HX1 := Lib.hid hx1
      have HX2 := Lib.hid hx2
      have HC1 := Lib.hid (show (conI ys)[j]? = some (⟨⟨kd, n, t⟩, l⟩ : It) from con_of hx1)
      have HC2 := Lib.hid (show (conI ys)[j + 1]? = some (⟨⟨kd2, n2, t2⟩, l2⟩ : It) from con_of hx2)
      clear hx1 hx2
      have HF1 := Lib.hid (show FitI ⟨⟨kd, n, t⟩, l⟩ from HFX.out _ (by rw [← HY.out]; exact List.mem_of_getElem? HC1.out))
      have HF2 := Lib.hid (show FitI ⟨⟨kd2, n2, t2⟩, l2⟩ from HFX.out _ (by rw [← HY.out]; exact List.mem_of_getElem? HC2.out))
      obtain ⟨na, hna⟩ : ∃ u, getN l f.data.toList = u := ⟨_, rfl⟩
      obtain ⟨nb, hnb⟩ : ∃ u, getN l2 f.data.toList = u := ⟨_, rfl⟩
      have HNA := Lib.hid hna
      have HNB := Lib.hid hnb
      have HAD := Lib.hid (show adj7 f.data.toList (conI ys) j = (na == nb) from by rw [adj_at HC1.out HC2.out]; dsimp only; rw [hna, hnb])
      clear hna hnb
      have hj1 : (0 : Int) ≤ (j : Int) + 1 := by omega
      have hsub : ((j + 1 : Nat) : Int) - 1 = (j : Int) := by omega
      have hjm : (j : Int) < (N : Int) := by omega
      have hwr : IntKind.i64.wrap (j : Int) = (j : Int) := IntWalk.i64_in _ ⟨by omega, by omega⟩
      have f0 : World.cell? _ (ad.add (j * 4)) = some (.int .i64 kd) := (readsI_at (LS.outer (s := ⟨⟨#[]⟩, some ad, lc, ys, 0⟩) (Bag.bag_rd S3.out 3 rfl)) j _ HX1.out).1
      have f1 : World.cell? _ (⟨(ad.add (j * 4)).block, (ad.add (j * 4)).off + 1, none⟩) = some (.int .i64 n) := (readsI_at (LS.outer (s := ⟨⟨#[]⟩, some ad, lc, ys, 0⟩) (Bag.bag_rd S3.out 3 rfl)) j _ HX1.out).2.1
      have f2 : World.cell? _ (⟨(ad.add (j * 4)).block, (ad.add (j * 4)).off + 2, none⟩) = some (.string t) := (readsI_at (LS.outer (s := ⟨⟨#[]⟩, some ad, lc, ys, 0⟩) (Bag.bag_rd S3.out 3 rfl)) j _ HX1.out).2.2.1
      have f3 : World.cell? _ (⟨(ad.add (j * 4)).block, (ad.add (j * 4)).off + 3, none⟩) = some (.slice ia l.length ic) := (readsI_at (LS.outer (s := ⟨⟨#[]⟩, some ad, lc, ys, 0⟩) (Bag.bag_rd S3.out 3 rfl)) j _ HX1.out).2.2.2
      have f4 : World.cell? _ (ad.add ((j + 1) * 4)) = some (.int .i64 kd2) := (readsI_at (LS.outer (s := ⟨⟨#[]⟩, some ad, lc, ys, 0⟩) (Bag.bag_rd S3.out 3 rfl)) (j + 1) _ HX2.out).1
      have f5 : World.cell? _ (⟨(ad.add ((j + 1) * 4)).block, (ad.add ((j + 1) * 4)).off + 1, none⟩) = some (.int .i64 n2) := (readsI_at (LS.outer (s := ⟨⟨#[]⟩, some ad, lc, ys, 0⟩) (Bag.bag_rd S3.out 3 rfl)) (j + 1) _ HX2.out).2.1
      have f6 : World.cell? _ (⟨(ad.add ((j + 1) * 4)).block, (ad.add ((j + 1) * 4)).off + 2, none⟩) = some (.string t2) := (readsI_at (LS.outer (s := ⟨⟨#[]⟩, some ad, lc, ys, 0⟩) (Bag.bag_rd S3.out 3 rfl)) (j + 1) _ HX2.out).2.2.1
      have f7 : World.cell? _ (⟨(ad.add ((j + 1) * 4)).block, (ad.add ((j + 1) * 4)).off + 3, none⟩) = some (.slice ia2 l2.length ic2) := (readsI_at (LS.outer (s := ⟨⟨#[]⟩, some ad, lc, ys, 0⟩) (Bag.bag_rd S3.out 3 rfl)) (j + 1) _ HX2.out).2.2.2
      have HC := L5.specGetField_any ia ic l f (by have : l.length ≤ 1048576 := HF1.out.len; omega) wr (((LS.inner (s := ⟨⟨#[]⟩, some ad, lc, ys, 0⟩) (Bag.bag_rd S3.out 3 rfl)).at_ (rowsI_mem HX1.out)).reads)
      rw [HNA.out] at HC
      go_wp2_with fail
      go_at_call 26
      refine HC.mono ?_
      clear HC
      rintro e w2 ⟨rfl, hb⟩
      clear f0 f1 f2 f3 f4 f5 f6 f7
      have S4 := Lib.hid (S3.out.keep hb)
      clear S3
      clear hb
      have f0 : World.cell? _ (ad.add (j * 4)) = some (.int .i64 kd) := (readsI_at (LS.outer (s := ⟨⟨#[]⟩, some ad, lc, ys, 0⟩) (Bag.bag_rd S4.out 3 rfl)) j _ HX1.out).1
      have f1 : World.cell? _ (⟨(ad.add (j * 4)).block, (ad.add (j * 4)).off + 1, none⟩) = some (.int .i64 n) := (readsI_at (LS.outer (s := ⟨⟨#[]⟩, some ad, lc, ys, 0⟩) (Bag.bag_rd S4.out 3 rfl)) j _ HX1.out).2.1
      have f2 : World.cell? _ (⟨(ad.add (j * 4)).block, (ad.add (j * 4)).off + 2, none⟩) = some (.string t) := (readsI_at (LS.outer (s := ⟨⟨#[]⟩, some ad, lc, ys, 0⟩) (Bag.bag_rd S4.out 3 rfl)) j _ HX1.out).2.2.1
      have f3 : World.cell? _ (⟨(ad.add (j * 4)).block, (ad.add (j * 4)).off + 3, none⟩) = some (.slice ia l.length ic) := (readsI_at (LS.outer (s := ⟨⟨#[]⟩, some ad, lc, ys, 0⟩) (Bag.bag_rd S4.out 3 rfl)) j _ HX1.out).2.2.2
      have f4 : World.cell? _ (ad.add ((j + 1) * 4)) = some (.int .i64 kd2) := (readsI_at (LS.outer (s := ⟨⟨#[]⟩, some ad, lc, ys, 0⟩) (Bag.bag_rd S4.out 3 rfl)) (j + 1) _ HX2.out).1
      have f5 : World.cell? _ (⟨(ad.add ((j + 1) * 4)).block, (ad.add ((j + 1) * 4)).off + 1, none⟩) = some (.int .i64 n2) := (readsI_at (LS.outer (s := ⟨⟨#[]⟩, some ad, lc, ys, 0⟩) (Bag.bag_rd S4.out 3 rfl)) (j + 1) _ HX2.out).2.1
      have f6 : World.cell? _ (⟨(ad.add ((j + 1) * 4)).block, (ad.add ((j + 1) * 4)).off + 2, none⟩) = some (.string t2) := (readsI_at (LS.outer (s := ⟨⟨#[]⟩, some ad, lc, ys, 0⟩) (Bag.bag_rd S4.out 3 rfl)) (j + 1) _ HX2.out).2.2.1
      have f7 : World.cell? _ (⟨(ad.add ((j + 1) * 4)).block, (ad.add ((j + 1) * 4)).off + 3, none⟩) = some (.slice ia2 l2.length ic2) := (readsI_at (LS.outer (s := ⟨⟨#[]⟩, some ad, lc, ys, 0⟩) (Bag.bag_rd S4.out 3 rfl)) (j + 1) _ HX2.out).2.2.2
      have HC := L5.specGetField_any ia2 ic2 l2 f (by have : l2.length ≤ 1048576 := HF2.out.len; omega) w2 (((LS.inner (s := ⟨⟨#[]⟩, some ad, lc, ys, 0⟩) (Bag.bag_rd S4.out 3 rfl)).at_ (rowsI_mem HX2.out)).reads)
      rw [HNB.out] at HC
      go_wp2_with fail
      go_at_call 26
      refine HC.mono ?_
      clear HC
      rintro e w3 ⟨rfl, hb⟩
      clear f0 f1 f2 f3 f4 f5 f6 f7
      have S5 := Lib.hid (S4.out.keep hb)
      clear S4
      clear hb
      by_cases he : na = nb
      · have he' : (na == nb) = true := by simp [he]
        go_upto_region 8 with fail
        refine wp_region_held_drew (S := (fun w' => World.cell? w' (ad.add (j * 4)) = some (.int .i64 kd) ∧ World.cell? w' (⟨(ad.add (j * 4)).block, (ad.add (j * 4)).off + 1, none⟩) = some (.int .i64 n) ∧ World.cell? w' (⟨(ad.add (j * 4)).block, (ad.add (j * 4)).off + 2, none⟩) = some (.string t) ∧ World.cell? w' (⟨(ad.add (j * 4)).block, (ad.add (j * 4)).off + 3, none⟩) = some (.slice ia l.length ic) ∧ World.cell? w' (ad.add ((j + 1) * 4)) = some (.int .i64 kd2) ∧ World.cell? w' (⟨(ad.add ((j + 1) * 4)).block, (ad.add ((j + 1) * 4)).off + 1, none⟩) = some (.int .i64 n2) ∧ World.cell? w' (⟨(ad.add ((j + 1) * 4)).block, (ad.add ((j + 1) * 4)).off + 2, none⟩) = some (.string t2) ∧ World.cell? w' (⟨(ad.add ((j + 1) * 4)).block, (ad.add ((j + 1) * 4)).off + 3, none⟩) = some (.slice ia2 l2.length ic2))) (by kernel_rfl) ⟨(readsI_at (LS.outer (s := ⟨⟨#[]⟩, some ad, lc, ys, 0⟩) (Bag.bag_rd (Bag.drew1 S5.out) 3 rfl)) j _ HX1.out).1, (readsI_at (LS.outer (s := ⟨⟨#[]⟩, some ad, lc, ys, 0⟩) (Bag.bag_rd (Bag.drew1 S5.out) 3 rfl)) j _ HX1.out).2.1, (readsI_at (LS.outer (s := ⟨⟨#[]⟩, some ad, lc, ys, 0⟩) (Bag.bag_rd (Bag.drew1 S5.out) 3 rfl)) j _ HX1.out).2.2.1, (readsI_at (LS.outer (s := ⟨⟨#[]⟩, some ad, lc, ys, 0⟩) (Bag.bag_rd (Bag.drew1 S5.out) 3 rfl)) j _ HX1.out).2.2.2, (readsI_at (LS.outer (s := ⟨⟨#[]⟩, some ad, lc, ys, 0⟩) (Bag.bag_rd (Bag.drew1 S5.out) 3 rfl)) (j + 1) _ HX2.out).1, (readsI_at (LS.outer (s := ⟨⟨#[]⟩, some ad, lc, ys, 0⟩) (Bag.bag_rd (Bag.drew1 S5.out) 3 rfl)) (j + 1) _ HX2.out).2.1, (readsI_at (LS.outer (s := ⟨⟨#[]⟩, some ad, lc, ys, 0⟩) (Bag.bag_rd (Bag.drew1 S5.out) 3 rfl)) (j + 1) _ HX2.out).2.2.1, (readsI_at (LS.outer (s := ⟨⟨#[]⟩, some ad, lc, ys, 0⟩) (Bag.bag_rd (Bag.drew1 S5.out) 3 rfl)) (j + 1) _ HX2.out).2.2.2⟩ (fun hS => ?_)
        have S6 := Lib.hid (show Sl.Sep w _ [L4.boxR w.heap.size 26 #[.string name, .slice a xs.length c, .int .i64 auto], L4.boxR (w.heap.size + 1) 28 #[.int .i64 0, .int .i64 0, .string ⟨#[]⟩], L4.boxR (w.heap.size + 1 + 1) 28 #[.int .i64 0, .int .i64 0, .string ⟨#[]⟩], Bag.bag (rowI (some ad) lc ys :: rowsI ys)] from Bag.drew1 S5.out)
        clear S5
        generalize World.drew _ = w4 at hS S6 ⊢
        refine tk 0 rfl ?_
        try simp only [zp0, zp1, zp2, zp3, zp4]
        refine tk 1 rfl ?_
        try simp only [zp0, zp1, zp2, zp3, zp4]
        refine tk 2 rfl ?_
        try simp only [zp0, zp1, zp2, zp3, zp4]
        refine tk 3 rfl ?_
        try simp only [zp0, zp1, zp2, zp3, zp4]
        refine tk 4 rfl ?_
        try simp only [zp0, zp1, zp2, zp3, zp4]
        refine tk 5 rfl ?_
        try simp only [zp0, zp1, zp2, zp3, zp4]
        refine tk 6 rfl ?_
        try simp only [zp0, zp1, zp2, zp3, zp4]
        refine tk 7 rfl ?_
        try simp only [zp0, zp1, zp2, zp3, zp4]
        refine tk 8 rfl ?_
        try simp only [zp0, zp1, zp2, zp3, zp4]
        refine tk 9 rfl ?_
        try simp only [zp0, zp1, zp2, zp3, zp4]
        refine tk 10 rfl ?_
        try simp only [zp0, zp1, zp2, zp3, zp4]
        refine Reg.one_op (i := 11) rfl (by kernel_rfl) (fun K hK => ?_)
        have hh := Bag.cs3 S6.out 1 rfl
        have f0 := hh.1; have f1 := hh.2.1; have f2 := hh.2.2; clear hh
        have hh := Bag.fs3 S6.out 1 rfl
        have z0 := hh.1; have z1 := hh.2.1; have z2 := hh.2.2; clear hh
        go_simp
        clear f0 f1 f2 z0 z1 z2
        have S7 := Lib.hid (show Sl.Sep w _ [L4.boxR w.heap.size 26 #[.string name, .slice a xs.length c, .int .i64 auto], L4.boxR (w.heap.size + 1) 28 #[.int .i64 kd, .int .i64 n, .string t], L4.boxR (w.heap.size + 1 + 1) 28 #[.int .i64 0, .int .i64 0, .string ⟨#[]⟩], Bag.bag (rowI (some ad) lc ys :: rowsI ys)] from L5.put_box5 (L5.put_box5 (L5.put_box5 (S6.out) 1 rfl 0 (.int .i64 kd)) 1 rfl 1 (.int .i64 n)) 1 rfl 2 (.string t))
        clear S6
        refine hK.out _ _ ⟨(readsI_at (LS.outer (s := ⟨⟨#[]⟩, some ad, lc, ys, 0⟩) (Bag.bag_rd S7.out 3 rfl)) j _ HX1.out).1, (readsI_at (LS.outer (s := ⟨⟨#[]⟩, some ad, lc, ys, 0⟩) (Bag.bag_rd S7.out 3 rfl)) j _ HX1.out).2.1, (readsI_at (LS.outer (s := ⟨⟨#[]⟩, some ad, lc, ys, 0⟩) (Bag.bag_rd S7.out 3 rfl)) j _ HX1.out).2.2.1, (readsI_at (LS.outer (s := ⟨⟨#[]⟩, some ad, lc, ys, 0⟩) (Bag.bag_rd S7.out 3 rfl)) j _ HX1.out).2.2.2, (readsI_at (LS.outer (s := ⟨⟨#[]⟩, some ad, lc, ys, 0⟩) (Bag.bag_rd S7.out 3 rfl)) (j + 1) _ HX2.out).1, (readsI_at (LS.outer (s := ⟨⟨#[]⟩, some ad, lc, ys, 0⟩) (Bag.bag_rd S7.out 3 rfl)) (j + 1) _ HX2.out).2.1, (readsI_at (LS.outer (s := ⟨⟨#[]⟩, some ad, lc, ys, 0⟩) (Bag.bag_rd S7.out 3 rfl)) (j + 1) _ HX2.out).2.2.1, (readsI_at (LS.outer (s := ⟨⟨#[]⟩, some ad, lc, ys, 0⟩) (Bag.bag_rd S7.out 3 rfl)) (j + 1) _ HX2.out).2.2.2⟩ (fun hS => ?_)
        clear hK K
        try simp only [zp0, zp1, zp2, zp3, zp4]
        refine Reg.one_op (i := 12) rfl (by kernel_rfl) (fun K hK => ?_)
        have hh := Bag.cs3 S7.out 2 rfl
        have f0 := hh.1; have f1 := hh.2.1; have f2 := hh.2.2; clear hh
        have hh := Bag.fs3 S7.out 2 rfl
        have z0 := hh.1; have z1 := hh.2.1; have z2 := hh.2.2; clear hh
        go_simp
        clear f0 f1 f2 z0 z1 z2
        have S8 := Lib.hid (show Sl.Sep w _ [L4.boxR w.heap.size 26 #[.string name, .slice a xs.length c, .int .i64 auto], L4.boxR (w.heap.size + 1) 28 #[.int .i64 kd, .int .i64 n, .string t], L4.boxR (w.heap.size + 1 + 1) 28 #[.int .i64 kd2, .int .i64 n2, .string t2], Bag.bag (rowI (some ad) lc ys :: rowsI ys)] from L5.put_box5 (L5.put_box5 (L5.put_box5 (S7.out) 2 rfl 0 (.int .i64 kd2)) 2 rfl 1 (.int .i64 n2)) 2 rfl 2 (.string t2))
        clear S7
        refine hK.out _ _ ⟨(readsI_at (LS.outer (s := ⟨⟨#[]⟩, some ad, lc, ys, 0⟩) (Bag.bag_rd S8.out 3 rfl)) j _ HX1.out).1, (readsI_at (LS.outer (s := ⟨⟨#[]⟩, some ad, lc, ys, 0⟩) (Bag.bag_rd S8.out 3 rfl)) j _ HX1.out).2.1, (readsI_at (LS.outer (s := ⟨⟨#[]⟩, some ad, lc, ys, 0⟩) (Bag.bag_rd S8.out 3 rfl)) j _ HX1.out).2.2.1, (readsI_at (LS.outer (s := ⟨⟨#[]⟩, some ad, lc, ys, 0⟩) (Bag.bag_rd S8.out 3 rfl)) j _ HX1.out).2.2.2, (readsI_at (LS.outer (s := ⟨⟨#[]⟩, some ad, lc, ys, 0⟩) (Bag.bag_rd S8.out 3 rfl)) (j + 1) _ HX2.out).1, (readsI_at (LS.outer (s := ⟨⟨#[]⟩, some ad, lc, ys, 0⟩) (Bag.bag_rd S8.out 3 rfl)) (j + 1) _ HX2.out).2.1, (readsI_at (LS.outer (s := ⟨⟨#[]⟩, some ad, lc, ys, 0⟩) (Bag.bag_rd S8.out 3 rfl)) (j + 1) _ HX2.out).2.2.1, (readsI_at (LS.outer (s := ⟨⟨#[]⟩, some ad, lc, ys, 0⟩) (Bag.bag_rd S8.out 3 rfl)) (j + 1) _ HX2.out).2.2.2⟩ (fun hS => ?_)
        clear hK K
        try simp only [zp0, zp1, zp2, zp3, zp4]
        refine tk 13 rfl ?_
        try simp only [zp0, zp1, zp2, zp3, zp4]
        refine wpAnyH_done (by kernel_rfl) ?_ _
        have hh := Bag.cs3 S8.out 0 rfl
        have f0 := hh.1; have f1 := hh.2.1; have f2 := hh.2.2; clear hh
        have hh := Bag.cs3 S8.out 1 rfl
        have f3 := hh.1; have f4 := hh.2.1; have f5 := hh.2.2; clear hh
        have hh := Bag.cs3 S8.out 2 rfl
        have f6 := hh.1; have f7 := hh.2.1; have f8 := hh.2.2; clear hh
        have f9 : World.cell? _ (ad.add (j * 4)) = some (.int .i64 kd) := (readsI_at (LS.outer (s := ⟨⟨#[]⟩, some ad, lc, ys, 0⟩) (Bag.bag_rd S8.out 3 rfl)) j _ HX1.out).1
        have f10 : World.cell? _ (⟨(ad.add (j * 4)).block, (ad.add (j * 4)).off + 1, none⟩) = some (.int .i64 n) := (readsI_at (LS.outer (s := ⟨⟨#[]⟩, some ad, lc, ys, 0⟩) (Bag.bag_rd S8.out 3 rfl)) j _ HX1.out).2.1
        have f11 : World.cell? _ (⟨(ad.add (j * 4)).block, (ad.add (j * 4)).off + 2, none⟩) = some (.string t) := (readsI_at (LS.outer (s := ⟨⟨#[]⟩, some ad, lc, ys, 0⟩) (Bag.bag_rd S8.out 3 rfl)) j _ HX1.out).2.2.1
        have f12 : World.cell? _ (⟨(ad.add (j * 4)).block, (ad.add (j * 4)).off + 3, none⟩) = some (.slice ia l.length ic) := (readsI_at (LS.outer (s := ⟨⟨#[]⟩, some ad, lc, ys, 0⟩) (Bag.bag_rd S8.out 3 rfl)) j _ HX1.out).2.2.2
        have f13 : World.cell? _ (ad.add ((j + 1) * 4)) = some (.int .i64 kd2) := (readsI_at (LS.outer (s := ⟨⟨#[]⟩, some ad, lc, ys, 0⟩) (Bag.bag_rd S8.out 3 rfl)) (j + 1) _ HX2.out).1
        have f14 : World.cell? _ (⟨(ad.add ((j + 1) * 4)).block, (ad.add ((j + 1) * 4)).off + 1, none⟩) = some (.int .i64 n2) := (readsI_at (LS.outer (s := ⟨⟨#[]⟩, some ad, lc, ys, 0⟩) (Bag.bag_rd S8.out 3 rfl)) (j + 1) _ HX2.out).2.1
        have f15 : World.cell? _ (⟨(ad.add ((j + 1) * 4)).block, (ad.add ((j + 1) * 4)).off + 2, none⟩) = some (.string t2) := (readsI_at (LS.outer (s := ⟨⟨#[]⟩, some ad, lc, ys, 0⟩) (Bag.bag_rd S8.out 3 rfl)) (j + 1) _ HX2.out).2.2.1
        have f16 : World.cell? _ (⟨(ad.add ((j + 1) * 4)).block, (ad.add ((j + 1) * 4)).off + 3, none⟩) = some (.slice ia2 l2.length ic2) := (readsI_at (LS.outer (s := ⟨⟨#[]⟩, some ad, lc, ys, 0⟩) (Bag.bag_rd S8.out 3 rfl)) (j + 1) _ HX2.out).2.2.2
        clear f0 f1 f2 f3 f4 f5 f6 f7 f8 f9 f10 f11 f12 f13 f14 f15 f16
        have hh := Bag.cs3 S8.out 1 rfl
        have f0 := hh.1; have f1 := hh.2.1; have f2 := hh.2.2; clear hh
        have hh := Bag.cs3 S8.out 2 rfl
        have f3 := hh.1; have f4 := hh.2.1; have f5 := hh.2.2; clear hh
        have f6 : World.cell? _ (ad.add (j * 4)) = some (.int .i64 kd) := (readsI_at (LS.outer (s := ⟨⟨#[]⟩, some ad, lc, ys, 0⟩) (Bag.bag_rd S8.out 3 rfl)) j _ HX1.out).1
        have f7 : World.cell? _ (⟨(ad.add (j * 4)).block, (ad.add (j * 4)).off + 1, none⟩) = some (.int .i64 n) := (readsI_at (LS.outer (s := ⟨⟨#[]⟩, some ad, lc, ys, 0⟩) (Bag.bag_rd S8.out 3 rfl)) j _ HX1.out).2.1
        have f8 : World.cell? _ (⟨(ad.add (j * 4)).block, (ad.add (j * 4)).off + 2, none⟩) = some (.string t) := (readsI_at (LS.outer (s := ⟨⟨#[]⟩, some ad, lc, ys, 0⟩) (Bag.bag_rd S8.out 3 rfl)) j _ HX1.out).2.2.1
        have f9 : World.cell? _ (⟨(ad.add (j * 4)).block, (ad.add (j * 4)).off + 3, none⟩) = some (.slice ia l.length ic) := (readsI_at (LS.outer (s := ⟨⟨#[]⟩, some ad, lc, ys, 0⟩) (Bag.bag_rd S8.out 3 rfl)) j _ HX1.out).2.2.2
        have f10 : World.cell? _ (ad.add ((j + 1) * 4)) = some (.int .i64 kd2) := (readsI_at (LS.outer (s := ⟨⟨#[]⟩, some ad, lc, ys, 0⟩) (Bag.bag_rd S8.out 3 rfl)) (j + 1) _ HX2.out).1
        have f11 : World.cell? _ (⟨(ad.add ((j + 1) * 4)).block, (ad.add ((j + 1) * 4)).off + 1, none⟩) = some (.int .i64 n2) := (readsI_at (LS.outer (s := ⟨⟨#[]⟩, some ad, lc, ys, 0⟩) (Bag.bag_rd S8.out 3 rfl)) (j + 1) _ HX2.out).2.1
        have f12 : World.cell? _ (⟨(ad.add ((j + 1) * 4)).block, (ad.add ((j + 1) * 4)).off + 2, none⟩) = some (.string t2) := (readsI_at (LS.outer (s := ⟨⟨#[]⟩, some ad, lc, ys, 0⟩) (Bag.bag_rd S8.out 3 rfl)) (j + 1) _ HX2.out).2.2.1
        have f13 : World.cell? _ (⟨(ad.add ((j + 1) * 4)).block, (ad.add ((j + 1) * 4)).off + 3, none⟩) = some (.slice ia2 l2.length ic2) := (readsI_at (LS.outer (s := ⟨⟨#[]⟩, some ad, lc, ys, 0⟩) (Bag.bag_rd S8.out 3 rfl)) (j + 1) _ HX2.out).2.2.2
        go_wp2_with fail
        refine bodyPost_ret (v := .tuple #[.agg #[.int .i64 kd, .int .i64 n, .string t], .agg #[.int .i64 kd2, .int .i64 n2, .string t2], .bool true]) (by simp [results, Try.results31, go_sem, *]) rfl ?_
        clear f0 f1 f2 f3 f4 f5 f6 f7 f8 f9 f10 f11 f12 f13
        obtain ⟨e1, e2, e3⟩ := uf_yes (ufO_some (t := f.data.toList) (l := conI ys) (i := j) (by rw [conI_length, ← HN.out]; omega) (by rw [HAD.out]; exact he') HA.out) HC1.out HC2.out
        exact ⟨by rw [← HY.out, e1, e2, e3]; rfl, S8.out.old⟩
      · have he' : (na == nb) = false := beq_no he
        go_wp2_with fail
        go_roundw
        case rel => exact ⟨j + 1, by omega, by go_num, And.intro (fun q hq => if e : q = j then by subst e; rw [HAD.out]; exact he' else HA.out q (by omega)) S5.out⟩
        case measure => simp [intOf]; omega
    · skip
      have hh := Bag.cs3 S3.out 1 rfl
      have f0 := hh.1; have f1 := hh.2.1; have f2 := hh.2.2; clear hh
      have hh := Bag.cs3 S3.out 2 rfl
      have f3 := hh.1; have f4 := hh.2.1; have f5 := hh.2.2; clear hh
      have hh := Bag.fs3 S3.out 1 rfl
      have z0 := hh.1; have z1 := hh.2.1; have z2 := hh.2.2; clear hh
      have y0 := Bag.free_at S3.out 2 rfl 0
      have y1 := Bag.free_at S3.out 2 rfl 1
      have y2 := Bag.free_at S3.out 2 rfl 2
      go_wp2_with fail
      clear f0 f1 f2 f3 f4 f5 z0 z1 z2 y0 y1 y2
      have S4 := Lib.hid (show Sl.Sep w _ [L4.boxR w.heap.size 26 #[.string name, .slice a xs.length c, .int .i64 auto], L4.boxR (w.heap.size + 1) 28 #[.int .i64 0, .int .i64 0, .string ⟨#[]⟩], L4.boxR (w.heap.size + 1 + 1) 28 #[.int .i64 0, .int .i64 0, .string ⟨#[]⟩], Bag.bag (rowI la lc ys :: rowsI ys)] from L5.put_box5 (L5.put_box5 (L5.put_box5 (S3.out) 1 rfl 0 (.int .i64 0)) 1 rfl 1 (.int .i64 0)) 1 rfl 2 (.string ⟨#[]⟩))
      clear S3
      have S5 := Lib.hid (show Sl.Sep w _ [L4.boxR w.heap.size 26 #[.string name, .slice a xs.length c, .int .i64 auto], L4.boxR (w.heap.size + 1) 28 #[.int .i64 0, .int .i64 0, .string ⟨#[]⟩], L4.boxR (w.heap.size + 1 + 1) 28 #[.int .i64 0, .int .i64 0, .string ⟨#[]⟩], Bag.bag (rowI la lc ys :: rowsI ys)] from L5.put_box5 (L5.put_box5 (L5.put_box5 (S4.out) 2 rfl 0 (.int .i64 0)) 2 rfl 1 (.int .i64 0)) 2 rfl 2 (.string ⟨#[]⟩))
      clear S4
      have hh := Bag.cs3 S5.out 1 rfl
      have f0 := hh.1; have f1 := hh.2.1; have f2 := hh.2.2; clear hh
      have hh := Bag.cs3 S5.out 2 rfl
      have f3 := hh.1; have f4 := hh.2.1; have f5 := hh.2.2; clear hh
      refine bodyPost_ret (v := .tuple #[.agg #[.int .i64 0, .int .i64 0, .string ⟨#[]⟩], .agg #[.int .i64 0, .int .i64 0, .string ⟨#[]⟩], .bool false]) (by simp [results, Try.results31, go_sem, *]) rfl ?_
      clear f0 f1 f2 f3 f4 f5
      obtain ⟨e1, e2, e3⟩ := uf_no (ufO_none (t := f.data.toList) (l := conI ys) (fun q hq => HA.out q (by rw [conI_length, ← HN.out] at hq; omega)))
      exact ⟨by rw [← HY.out, e1, e2, e3]; rfl, S5.out.old⟩
end Go.Proofs.Ytmnedjhfibmcnaa.L7

/-
  The contracts of the program's UniqueFault. Conditions: keys' texts of at most 2^40 bytes, at most 2^20 fields and items. (Written by my program gen_l7h.py.)
-/
namespace Go.Proofs.Ytmnedjhfibmcnaa.L7
set_option maxRecDepth 100000
open L4 (K isK cmpK R inR encU)
open L5 (F isR isN cellsF encR eqR Small getO getN getB)
open L6
open Go.ChangeShapes Go.WideShapes Go.ChangeAt Go.RowKit Mem Sl Ex L2 Sv Bag
set_option linter.unusedVariables false
set_option linter.unusedSimpArgs false

set_option maxHeartbeats 8000000 in
theorem uniqueFault_any (y : LS) (f : ByteArray) (hf : FitS y.con) (w : World) (hr : RowsRd w w.heap.size y.rows) :
    Calls Try.prog 30 #[y.v, .string f] w fun e w' => e = .returned (.tuple #[(ufA f.data.toList (idxI y.con.items f.data.toList)).v, (ufZ f.data.toList (idxI y.con.items f.data.toList)).v, .bool (ufB f.data.toList (idxI y.con.items f.data.toList))]) ∧ Below w.heap.size w w' := by
  have HIX := Lib.hid (fun w' (h : Below w.heap.size w w') => indexOn_any y f hf w' ((hr.below h).more h.size))
  have HFX := Lib.hid (fit_idx (t := f.data.toList) hf.items)
  have HLN := Lib.hid (Nat.le_trans (idxI_len y.con.items f.data.toList) hf.len)
  obtain ⟨L, hL⟩ : ∃ u, idxI y.con.items f.data.toList = u := ⟨_, rfl⟩
  rw [hL] at HIX HFX HLN ⊢
  clear hL
  obtain ⟨name, a, c, xs, auto⟩ := y
  dsimp only [LS.v, LS.cells] at HIX ⊢
  have S1 := Lib.hid (show Sl.Sep w (((w.alloc (.cells #[.string name, .slice a xs.length c, .int .i64 auto] 26)).alloc (.cells #[.int .i64 0, .int .i64 0, .string ⟨#[]⟩] 28)).alloc (.cells #[.int .i64 0, .int .i64 0, .string ⟨#[]⟩] 28)) [L4.boxR w.heap.size 26 #[.string name, .slice a xs.length c, .int .i64 auto], L4.boxR (w.heap.size + 1) 28 #[.int .i64 0, .int .i64 0, .string ⟨#[]⟩], L4.boxR (w.heap.size + 1 + 1) 28 #[.int .i64 0, .int .i64 0, .string ⟨#[]⟩]] from L4.push_box (L4.push_box (L4.push_box (Sl.Sep.start w) 26 #[.string name, .slice a xs.length c, .int .i64 auto] (w.heap.size) (by simp)) 28 #[.int .i64 0, .int .i64 0, .string ⟨#[]⟩] (w.heap.size + 1) (by simp)) 28 #[.int .i64 0, .int .i64 0, .string ⟨#[]⟩] (w.heap.size + 1 + 1) (by simp))
  obtain ⟨wa, hwa⟩ : ∃ u, u = (((w.alloc (.cells #[.string name, .slice a xs.length c, .int .i64 auto] 26)).alloc (.cells #[.int .i64 0, .int .i64 0, .string ⟨#[]⟩] 28)).alloc (.cells #[.int .i64 0, .int .i64 0, .string ⟨#[]⟩] 28)) := ⟨_, rfl⟩
  rw [← hwa] at S1
  go_enter Try.func30, Try.ntmps30
  go_upto_region 1 with fail
  rw [← hwa]
  clear hwa
  have hh := Bag.cs3 S1.out 0 rfl
  have f0 := hh.1; have f1 := hh.2.1; have f2 := hh.2.2; clear hh
  go_wp2_with fail
  go_at_call 25
  refine (HIX.out _ S1.out.old).mono ?_
  rintro e w1 ⟨la, lc, ys, rfl, hys, ho, hb⟩
  clear f0 f1 f2
  have S2 := Lib.hid (show Sl.Sep w _ [L4.boxR w.heap.size 26 #[.string name, .slice a xs.length c, .int .i64 auto], L4.boxR (w.heap.size + 1) 28 #[.int .i64 0, .int .i64 0, .string ⟨#[]⟩], L4.boxR (w.heap.size + 1 + 1) 28 #[.int .i64 0, .int .i64 0, .string ⟨#[]⟩], Bag.bag (rowI la lc ys :: rowsI ys)] from Bag.push_bag S1.out hb ho)
  clear S1
  clear hb ho
  have HY := Lib.hid hys
  clear hys
  obtain ⟨N, hN⟩ : ∃ N, N = ys.length := ⟨_, rfl⟩
  rw [← hN]
  have HN := Lib.hid hN
  have hNl : N ≤ 1048576 := by have h := HLN.out; rw [← HY.out, conI_length] at h; omega
  clear hN
  go_wp2_with fail
  go_loopw [8] (fun i wr => ∃ j : Nat, (j + 1 ≤ N ∨ j = 0) ∧ i = .int .i64 ((j + 1 : Nat) : Int) ∧ Hid ((∀ q, q < j → adj7 f.data.toList (conI ys) q = false) ∧ Sl.Sep w wr [L4.boxR w.heap.size 26 #[.string name, .slice a xs.length c, .int .i64 auto], L4.boxR (w.heap.size + 1) 28 #[.int .i64 0, .int .i64 0, .string ⟨#[]⟩], L4.boxR (w.heap.size + 1 + 1) 28 #[.int .i64 0, .int .i64 0, .string ⟨#[]⟩], Bag.bag (rowI la lc ys :: rowsI ys)])) (fun i _ => N - (intOf i).toNat)
  case atStart => exact ⟨0, .inr rfl, rfl, And.intro (fun q hq => absurd hq (by omega)) S2.out⟩
  case round =>
    obtain ⟨j, hj, rfl, hrel⟩ := hrel
    have HA := Lib.hid hrel.out.1
    have S3 := Lib.hid hrel.out.2
    clear hrel S2
    by_cases hlt : ((j + 1 : Nat) : Int) < (N : Int)
    · skip
      obtain ⟨ad, x1, e', hx1⟩ := readsI_some (LS.outer (s := ⟨⟨#[]⟩, la, lc, ys, 0⟩) (Bag.bag_rd S3.out 3 rfl)) j (by show j < ys.length; have := HN.out; omega)
      have e'' : la = some ad := e'
      subst e''
      clear e'
      obtain ⟨ad_, x2, e_, hx2⟩ := readsI_some (LS.outer (s := ⟨⟨#[]⟩, some ad, lc, ys, 0⟩) (Bag.bag_rd S3.out 3 rfl)) (j + 1) (by show j + 1 < ys.length; have := HN.out; omega)
      clear ad_ e_
      obtain ⟨⟨kd, n, t⟩, ia, ic, l⟩ := x1
      obtain ⟨⟨kd2, n2, t2⟩, ia2, ic2, l2⟩ := x2
      have HX1 := Lib.hid hx1
      have HX2 := Lib.hid hx2
      have HC1 := Lib.hid (show (conI ys)[j]? = some (⟨⟨kd, n, t⟩, l⟩ : It) from con_of hx1)
      have HC2 := Lib.hid (show (conI ys)[j + 1]? = some (⟨⟨kd2, n2, t2⟩, l2⟩ : It) from con_of hx2)
      clear hx1 hx2
      have HF1 := Lib.hid (show FitI ⟨⟨kd, n, t⟩, l⟩ from HFX.out _ (by rw [← HY.out]; exact List.mem_of_getElem? HC1.out))
      have HF2 := Lib.hid (show FitI ⟨⟨kd2, n2, t2⟩, l2⟩ from HFX.out _ (by rw [← HY.out]; exact List.mem_of_getElem? HC2.out))
      obtain ⟨na, hna⟩ : ∃ u, getN l f.data.toList = u := ⟨_, rfl⟩
      obtain ⟨nb, hnb⟩ : ∃ u, getN l2 f.data.toList = u := ⟨_, rfl⟩
      have HNA := Lib.hid hna
      have HNB := Lib.hid hnb
      have HAD := Lib.hid (show adj7 f.data.toList (conI ys) j = (na == nb) from by rw [adj_at HC1.out HC2.out]; dsimp only; rw [hna, hnb])
      clear hna hnb
      have hj1 : (0 : Int) ≤ (j : Int) + 1 := by omega
      have hsub : ((j + 1 : Nat) : Int) - 1 = (j : Int) := by omega
      have hjm : (j : Int) < (N : Int) := by omega
      have hjm1 : (j : Int) + 1 < (N : Int) := by omega
      have hwr : IntKind.i64.wrap (j : Int) = (j : Int) := IntWalk.i64_in _ ⟨by omega, by omega⟩
      go_upto_region 5 with fail
      refine wp_region_held_drew (S := (fun w' => World.cell? w' (ad.add (j * 4)) = some (.int .i64 kd) ∧ World.cell? w' (⟨(ad.add (j * 4)).block, (ad.add (j * 4)).off + 1, none⟩) = some (.int .i64 n) ∧ World.cell? w' (⟨(ad.add (j * 4)).block, (ad.add (j * 4)).off + 2, none⟩) = some (.string t) ∧ World.cell? w' (⟨(ad.add (j * 4)).block, (ad.add (j * 4)).off + 3, none⟩) = some (.slice ia l.length ic) ∧ World.cell? w' (ad.add ((j + 1) * 4)) = some (.int .i64 kd2) ∧ World.cell? w' (⟨(ad.add ((j + 1) * 4)).block, (ad.add ((j + 1) * 4)).off + 1, none⟩) = some (.int .i64 n2) ∧ World.cell? w' (⟨(ad.add ((j + 1) * 4)).block, (ad.add ((j + 1) * 4)).off + 2, none⟩) = some (.string t2) ∧ World.cell? w' (⟨(ad.add ((j + 1) * 4)).block, (ad.add ((j + 1) * 4)).off + 3, none⟩) = some (.slice ia2 l2.length ic2))) (by kernel_rfl) ⟨(readsI_at (LS.outer (s := ⟨⟨#[]⟩, some ad, lc, ys, 0⟩) (Bag.bag_rd (Bag.drew1 S3.out) 3 rfl)) j _ HX1.out).1, (readsI_at (LS.outer (s := ⟨⟨#[]⟩, some ad, lc, ys, 0⟩) (Bag.bag_rd (Bag.drew1 S3.out) 3 rfl)) j _ HX1.out).2.1, (readsI_at (LS.outer (s := ⟨⟨#[]⟩, some ad, lc, ys, 0⟩) (Bag.bag_rd (Bag.drew1 S3.out) 3 rfl)) j _ HX1.out).2.2.1, (readsI_at (LS.outer (s := ⟨⟨#[]⟩, some ad, lc, ys, 0⟩) (Bag.bag_rd (Bag.drew1 S3.out) 3 rfl)) j _ HX1.out).2.2.2, (readsI_at (LS.outer (s := ⟨⟨#[]⟩, some ad, lc, ys, 0⟩) (Bag.bag_rd (Bag.drew1 S3.out) 3 rfl)) (j + 1) _ HX2.out).1, (readsI_at (LS.outer (s := ⟨⟨#[]⟩, some ad, lc, ys, 0⟩) (Bag.bag_rd (Bag.drew1 S3.out) 3 rfl)) (j + 1) _ HX2.out).2.1, (readsI_at (LS.outer (s := ⟨⟨#[]⟩, some ad, lc, ys, 0⟩) (Bag.bag_rd (Bag.drew1 S3.out) 3 rfl)) (j + 1) _ HX2.out).2.2.1, (readsI_at (LS.outer (s := ⟨⟨#[]⟩, some ad, lc, ys, 0⟩) (Bag.bag_rd (Bag.drew1 S3.out) 3 rfl)) (j + 1) _ HX2.out).2.2.2⟩ (fun hS => ?_)
      have S4 := Lib.hid (show Sl.Sep w _ [L4.boxR w.heap.size 26 #[.string name, .slice a xs.length c, .int .i64 auto], L4.boxR (w.heap.size + 1) 28 #[.int .i64 0, .int .i64 0, .string ⟨#[]⟩], L4.boxR (w.heap.size + 1 + 1) 28 #[.int .i64 0, .int .i64 0, .string ⟨#[]⟩], Bag.bag (rowI (some ad) lc ys :: rowsI ys)] from Bag.drew1 S3.out)
      clear S3
      generalize World.drew _ = w2 at hS S4 ⊢
      refine tk 0 rfl ?_
      try simp only [zp0, zp1, zp2, zp3, zp4]
      refine tk 1 rfl ?_
      try simp only [zp0, zp1, zp2, zp3, zp4]
      refine tk 2 rfl ?_
      try simp only [zp0, zp1, zp2, zp3, zp4]
      refine tk 3 rfl ?_
      try simp only [zp0, zp1, zp2, zp3, zp4]
      refine tk 4 rfl ?_
      try simp only [zp0, zp1, zp2, zp3, zp4]
      refine tk 5 rfl ?_
      try simp only [zp0, zp1, zp2, zp3, zp4]
      refine tk 7 rfl ?_
      try simp only [zp0, zp1, zp2, zp3, zp4]
      refine tk 8 rfl ?_
      try simp only [zp0, zp1, zp2, zp3, zp4]
      refine tk 9 rfl ?_
      try simp only [zp0, zp1, zp2, zp3, zp4]
      refine tk 10 rfl ?_
      try simp only [zp0, zp1, zp2, zp3, zp4]
      refine tk 11 rfl ?_
      try simp only [zp0, zp1, zp2, zp3, zp4]
      refine Reg.one_op (i := 6) rfl (by kernel_rfl) (fun K hK => ?_)
      have HC := numberIn_any kd n t ia ic l f HF1.out.len w2 (((LS.inner (s := ⟨⟨#[]⟩, some ad, lc, ys, 0⟩) (Bag.bag_rd S4.out 3 rfl)).at_ (rowsI_mem HX1.out)).reads)
      rw [HNA.out] at HC
      go_simp
      go_at_call 87
      refine HC.mono ?_
      clear HC
      rintro e w3 ⟨rfl, hb⟩
      have S5 := Lib.hid (S4.out.keep hb)
      clear S4
      clear hb
      go_wp2_with fail
      refine hK.out _ _ ⟨(readsI_at (LS.outer (s := ⟨⟨#[]⟩, some ad, lc, ys, 0⟩) (Bag.bag_rd S5.out 3 rfl)) j _ HX1.out).1, (readsI_at (LS.outer (s := ⟨⟨#[]⟩, some ad, lc, ys, 0⟩) (Bag.bag_rd S5.out 3 rfl)) j _ HX1.out).2.1, (readsI_at (LS.outer (s := ⟨⟨#[]⟩, some ad, lc, ys, 0⟩) (Bag.bag_rd S5.out 3 rfl)) j _ HX1.out).2.2.1, (readsI_at (LS.outer (s := ⟨⟨#[]⟩, some ad, lc, ys, 0⟩) (Bag.bag_rd S5.out 3 rfl)) j _ HX1.out).2.2.2, (readsI_at (LS.outer (s := ⟨⟨#[]⟩, some ad, lc, ys, 0⟩) (Bag.bag_rd S5.out 3 rfl)) (j + 1) _ HX2.out).1, (readsI_at (LS.outer (s := ⟨⟨#[]⟩, some ad, lc, ys, 0⟩) (Bag.bag_rd S5.out 3 rfl)) (j + 1) _ HX2.out).2.1, (readsI_at (LS.outer (s := ⟨⟨#[]⟩, some ad, lc, ys, 0⟩) (Bag.bag_rd S5.out 3 rfl)) (j + 1) _ HX2.out).2.2.1, (readsI_at (LS.outer (s := ⟨⟨#[]⟩, some ad, lc, ys, 0⟩) (Bag.bag_rd S5.out 3 rfl)) (j + 1) _ HX2.out).2.2.2⟩ (fun hS => ?_)
      clear hK K
      try simp only [zp0, zp1, zp2, zp3, zp4]
      refine Reg.one_op (i := 12) rfl (by kernel_rfl) (fun K hK => ?_)
      have HC := numberIn_any kd2 n2 t2 ia2 ic2 l2 f HF2.out.len w3 (((LS.inner (s := ⟨⟨#[]⟩, some ad, lc, ys, 0⟩) (Bag.bag_rd S5.out 3 rfl)).at_ (rowsI_mem HX2.out)).reads)
      rw [HNB.out] at HC
      go_simp
      go_at_call 87
      refine HC.mono ?_
      clear HC
      rintro e w4 ⟨rfl, hb⟩
      have S6 := Lib.hid (S5.out.keep hb)
      clear S5
      clear hb
      go_wp2_with fail
      refine hK.out _ _ ⟨(readsI_at (LS.outer (s := ⟨⟨#[]⟩, some ad, lc, ys, 0⟩) (Bag.bag_rd S6.out 3 rfl)) j _ HX1.out).1, (readsI_at (LS.outer (s := ⟨⟨#[]⟩, some ad, lc, ys, 0⟩) (Bag.bag_rd S6.out 3 rfl)) j _ HX1.out).2.1, (readsI_at (LS.outer (s := ⟨⟨#[]⟩, some ad, lc, ys, 0⟩) (Bag.bag_rd S6.out 3 rfl)) j _ HX1.out).2.2.1, (readsI_at (LS.outer (s := ⟨⟨#[]⟩, some ad, lc, ys, 0⟩) (Bag.bag_rd S6.out 3 rfl)) j _ HX1.out).2.2.2, (readsI_at (LS.outer (s := ⟨⟨#[]⟩, some ad, lc, ys, 0⟩) (Bag.bag_rd S6.out 3 rfl)) (j + 1) _ HX2.out).1, (readsI_at (LS.outer (s := ⟨⟨#[]⟩, some ad, lc, ys, 0⟩) (Bag.bag_rd S6.out 3 rfl)) (j + 1) _ HX2.out).2.1, (readsI_at (LS.outer (s := ⟨⟨#[]⟩, some ad, lc, ys, 0⟩) (Bag.bag_rd S6.out 3 rfl)) (j + 1) _ HX2.out).2.2.1, (readsI_at (LS.outer (s := ⟨⟨#[]⟩, some ad, lc, ys, 0⟩) (Bag.bag_rd S6.out 3 rfl)) (j + 1) _ HX2.out).2.2.2⟩ (fun hS => ?_)
      clear hK K
      try simp only [zp0, zp1, zp2, zp3, zp4]
      refine tk 13 rfl ?_
      try simp only [zp0, zp1, zp2, zp3, zp4]
      refine wpAnyH_done (by kernel_rfl) ?_ _
      have hh := Bag.cs3 S6.out 0 rfl
      have f0 := hh.1; have f1 := hh.2.1; have f2 := hh.2.2; clear hh
      have hh := Bag.cs3 S6.out 1 rfl
      have f3 := hh.1; have f4 := hh.2.1; have f5 := hh.2.2; clear hh
      have hh := Bag.cs3 S6.out 2 rfl
      have f6 := hh.1; have f7 := hh.2.1; have f8 := hh.2.2; clear hh
      have f9 : World.cell? _ (ad.add (j * 4)) = some (.int .i64 kd) := (readsI_at (LS.outer (s := ⟨⟨#[]⟩, some ad, lc, ys, 0⟩) (Bag.bag_rd S6.out 3 rfl)) j _ HX1.out).1
      have f10 : World.cell? _ (⟨(ad.add (j * 4)).block, (ad.add (j * 4)).off + 1, none⟩) = some (.int .i64 n) := (readsI_at (LS.outer (s := ⟨⟨#[]⟩, some ad, lc, ys, 0⟩) (Bag.bag_rd S6.out 3 rfl)) j _ HX1.out).2.1
      have f11 : World.cell? _ (⟨(ad.add (j * 4)).block, (ad.add (j * 4)).off + 2, none⟩) = some (.string t) := (readsI_at (LS.outer (s := ⟨⟨#[]⟩, some ad, lc, ys, 0⟩) (Bag.bag_rd S6.out 3 rfl)) j _ HX1.out).2.2.1
      have f12 : World.cell? _ (⟨(ad.add (j * 4)).block, (ad.add (j * 4)).off + 3, none⟩) = some (.slice ia l.length ic) := (readsI_at (LS.outer (s := ⟨⟨#[]⟩, some ad, lc, ys, 0⟩) (Bag.bag_rd S6.out 3 rfl)) j _ HX1.out).2.2.2
      have f13 : World.cell? _ (ad.add ((j + 1) * 4)) = some (.int .i64 kd2) := (readsI_at (LS.outer (s := ⟨⟨#[]⟩, some ad, lc, ys, 0⟩) (Bag.bag_rd S6.out 3 rfl)) (j + 1) _ HX2.out).1
      have f14 : World.cell? _ (⟨(ad.add ((j + 1) * 4)).block, (ad.add ((j + 1) * 4)).off + 1, none⟩) = some (.int .i64 n2) := (readsI_at (LS.outer (s := ⟨⟨#[]⟩, some ad, lc, ys, 0⟩) (Bag.bag_rd S6.out 3 rfl)) (j + 1) _ HX2.out).2.1
      have f15 : World.cell? _ (⟨(ad.add ((j + 1) * 4)).block, (ad.add ((j + 1) * 4)).off + 2, none⟩) = some (.string t2) := (readsI_at (LS.outer (s := ⟨⟨#[]⟩, some ad, lc, ys, 0⟩) (Bag.bag_rd S6.out 3 rfl)) (j + 1) _ HX2.out).2.2.1
      have f16 : World.cell? _ (⟨(ad.add ((j + 1) * 4)).block, (ad.add ((j + 1) * 4)).off + 3, none⟩) = some (.slice ia2 l2.length ic2) := (readsI_at (LS.outer (s := ⟨⟨#[]⟩, some ad, lc, ys, 0⟩) (Bag.bag_rd S6.out 3 rfl)) (j + 1) _ HX2.out).2.2.2
      by_cases he : na = nb
      · have he' : (na == nb) = true := by simp [he]
        go_upto_region 6 with fail
        clear f0 f1 f2 f3 f4 f5 f6 f7 f8 f9 f10 f11 f12 f13 f14 f15 f16
        refine wp_region_held_drew (S := (fun w' => World.cell? w' (ad.add (j * 4)) = some (.int .i64 kd) ∧ World.cell? w' (⟨(ad.add (j * 4)).block, (ad.add (j * 4)).off + 1, none⟩) = some (.int .i64 n) ∧ World.cell? w' (⟨(ad.add (j * 4)).block, (ad.add (j * 4)).off + 2, none⟩) = some (.string t) ∧ World.cell? w' (⟨(ad.add (j * 4)).block, (ad.add (j * 4)).off + 3, none⟩) = some (.slice ia l.length ic) ∧ World.cell? w' (ad.add ((j + 1) * 4)) = some (.int .i64 kd2) ∧ World.cell? w' (⟨(ad.add ((j + 1) * 4)).block, (ad.add ((j + 1) * 4)).off + 1, none⟩) = some (.int .i64 n2) ∧ World.cell? w' (⟨(ad.add ((j + 1) * 4)).block, (ad.add ((j + 1) * 4)).off + 2, none⟩) = some (.string t2) ∧ World.cell? w' (⟨(ad.add ((j + 1) * 4)).block, (ad.add ((j + 1) * 4)).off + 3, none⟩) = some (.slice ia2 l2.length ic2))) (by kernel_rfl) ⟨(readsI_at (LS.outer (s := ⟨⟨#[]⟩, some ad, lc, ys, 0⟩) (Bag.bag_rd (Bag.drew1 S6.out) 3 rfl)) j _ HX1.out).1, (readsI_at (LS.outer (s := ⟨⟨#[]⟩, some ad, lc, ys, 0⟩) (Bag.bag_rd (Bag.drew1 S6.out) 3 rfl)) j _ HX1.out).2.1, (readsI_at (LS.outer (s := ⟨⟨#[]⟩, some ad, lc, ys, 0⟩) (Bag.bag_rd (Bag.drew1 S6.out) 3 rfl)) j _ HX1.out).2.2.1, (readsI_at (LS.outer (s := ⟨⟨#[]⟩, some ad, lc, ys, 0⟩) (Bag.bag_rd (Bag.drew1 S6.out) 3 rfl)) j _ HX1.out).2.2.2, (readsI_at (LS.outer (s := ⟨⟨#[]⟩, some ad, lc, ys, 0⟩) (Bag.bag_rd (Bag.drew1 S6.out) 3 rfl)) (j + 1) _ HX2.out).1, (readsI_at (LS.outer (s := ⟨⟨#[]⟩, some ad, lc, ys, 0⟩) (Bag.bag_rd (Bag.drew1 S6.out) 3 rfl)) (j + 1) _ HX2.out).2.1, (readsI_at (LS.outer (s := ⟨⟨#[]⟩, some ad, lc, ys, 0⟩) (Bag.bag_rd (Bag.drew1 S6.out) 3 rfl)) (j + 1) _ HX2.out).2.2.1, (readsI_at (LS.outer (s := ⟨⟨#[]⟩, some ad, lc, ys, 0⟩) (Bag.bag_rd (Bag.drew1 S6.out) 3 rfl)) (j + 1) _ HX2.out).2.2.2⟩ (fun hS => ?_)
        have S7 := Lib.hid (show Sl.Sep w _ [L4.boxR w.heap.size 26 #[.string name, .slice a xs.length c, .int .i64 auto], L4.boxR (w.heap.size + 1) 28 #[.int .i64 0, .int .i64 0, .string ⟨#[]⟩], L4.boxR (w.heap.size + 1 + 1) 28 #[.int .i64 0, .int .i64 0, .string ⟨#[]⟩], Bag.bag (rowI (some ad) lc ys :: rowsI ys)] from Bag.drew1 S6.out)
        clear S6
        generalize World.drew _ = w5 at hS S7 ⊢
        refine tk 0 rfl ?_
        try simp only [zp0, zp1, zp2, zp3, zp4]
        refine tk 1 rfl ?_
        try simp only [zp0, zp1, zp2, zp3, zp4]
        refine tk 2 rfl ?_
        try simp only [zp0, zp1, zp2, zp3, zp4]
        refine tk 3 rfl ?_
        try simp only [zp0, zp1, zp2, zp3, zp4]
        refine tk 4 rfl ?_
        try simp only [zp0, zp1, zp2, zp3, zp4]
        refine tk 5 rfl ?_
        try simp only [zp0, zp1, zp2, zp3, zp4]
        refine tk 6 rfl ?_
        try simp only [zp0, zp1, zp2, zp3, zp4]
        refine tk 7 rfl ?_
        try simp only [zp0, zp1, zp2, zp3, zp4]
        refine tk 8 rfl ?_
        try simp only [zp0, zp1, zp2, zp3, zp4]
        refine tk 9 rfl ?_
        try simp only [zp0, zp1, zp2, zp3, zp4]
        refine tk 10 rfl ?_
        try simp only [zp0, zp1, zp2, zp3, zp4]
        refine Reg.one_op (i := 11) rfl (by kernel_rfl) (fun K hK => ?_)
        have hh := Bag.cs3 S7.out 1 rfl
        have f0 := hh.1; have f1 := hh.2.1; have f2 := hh.2.2; clear hh
        have hh := Bag.fs3 S7.out 1 rfl
        have z0 := hh.1; have z1 := hh.2.1; have z2 := hh.2.2; clear hh
        go_simp
        clear f0 f1 f2 z0 z1 z2
        have S8 := Lib.hid (show Sl.Sep w _ [L4.boxR w.heap.size 26 #[.string name, .slice a xs.length c, .int .i64 auto], L4.boxR (w.heap.size + 1) 28 #[.int .i64 kd, .int .i64 n, .string t], L4.boxR (w.heap.size + 1 + 1) 28 #[.int .i64 0, .int .i64 0, .string ⟨#[]⟩], Bag.bag (rowI (some ad) lc ys :: rowsI ys)] from L5.put_box5 (L5.put_box5 (L5.put_box5 (S7.out) 1 rfl 0 (.int .i64 kd)) 1 rfl 1 (.int .i64 n)) 1 rfl 2 (.string t))
        clear S7
        refine hK.out _ _ ⟨(readsI_at (LS.outer (s := ⟨⟨#[]⟩, some ad, lc, ys, 0⟩) (Bag.bag_rd S8.out 3 rfl)) j _ HX1.out).1, (readsI_at (LS.outer (s := ⟨⟨#[]⟩, some ad, lc, ys, 0⟩) (Bag.bag_rd S8.out 3 rfl)) j _ HX1.out).2.1, (readsI_at (LS.outer (s := ⟨⟨#[]⟩, some ad, lc, ys, 0⟩) (Bag.bag_rd S8.out 3 rfl)) j _ HX1.out).2.2.1, (readsI_at (LS.outer (s := ⟨⟨#[]⟩, some ad, lc, ys, 0⟩) (Bag.bag_rd S8.out 3 rfl)) j _ HX1.out).2.2.2, (readsI_at (LS.outer (s := ⟨⟨#[]⟩, some ad, lc, ys, 0⟩) (Bag.bag_rd S8.out 3 rfl)) (j + 1) _ HX2.out).1, (readsI_at (LS.outer (s := ⟨⟨#[]⟩, some ad, lc, ys, 0⟩) (Bag.bag_rd S8.out 3 rfl)) (j + 1) _ HX2.out).2.1, (readsI_at (LS.outer (s := ⟨⟨#[]⟩, some ad, lc, ys, 0⟩) (Bag.bag_rd S8.out 3 rfl)) (j + 1) _ HX2.out).2.2.1, (readsI_at (LS.outer (s := ⟨⟨#[]⟩, some ad, lc, ys, 0⟩) (Bag.bag_rd S8.out 3 rfl)) (j + 1) _ HX2.out).2.2.2⟩ (fun hS => ?_)
        clear hK K
        try simp only [zp0, zp1, zp2, zp3, zp4]
        refine Reg.one_op (i := 12) rfl (by kernel_rfl) (fun K hK => ?_)
        have hh := Bag.cs3 S8.out 2 rfl
        have f0 := hh.1; have f1 := hh.2.1; have f2 := hh.2.2; clear hh
        have hh := Bag.fs3 S8.out 2 rfl
        have z0 := hh.1; have z1 := hh.2.1; have z2 := hh.2.2; clear hh
        go_simp
        clear f0 f1 f2 z0 z1 z2
        have S9 := Lib.hid (show Sl.Sep w _ [L4.boxR w.heap.size 26 #[.string name, .slice a xs.length c, .int .i64 auto], L4.boxR (w.heap.size + 1) 28 #[.int .i64 kd, .int .i64 n, .string t], L4.boxR (w.heap.size + 1 + 1) 28 #[.int .i64 kd2, .int .i64 n2, .string t2], Bag.bag (rowI (some ad) lc ys :: rowsI ys)] from L5.put_box5 (L5.put_box5 (L5.put_box5 (S8.out) 2 rfl 0 (.int .i64 kd2)) 2 rfl 1 (.int .i64 n2)) 2 rfl 2 (.string t2))
        clear S8
        refine hK.out _ _ ⟨(readsI_at (LS.outer (s := ⟨⟨#[]⟩, some ad, lc, ys, 0⟩) (Bag.bag_rd S9.out 3 rfl)) j _ HX1.out).1, (readsI_at (LS.outer (s := ⟨⟨#[]⟩, some ad, lc, ys, 0⟩) (Bag.bag_rd S9.out 3 rfl)) j _ HX1.out).2.1, (readsI_at (LS.outer (s := ⟨⟨#[]⟩, some ad, lc, ys, 0⟩) (Bag.bag_rd S9.out 3 rfl)) j _ HX1.out).2.2.1, (readsI_at (LS.outer (s := ⟨⟨#[]⟩, some ad, lc, ys, 0⟩) (Bag.bag_rd S9.out 3 rfl)) j _ HX1.out).2.2.2, (readsI_at (LS.outer (s := ⟨⟨#[]⟩, some ad, lc, ys, 0⟩) (Bag.bag_rd S9.out 3 rfl)) (j + 1) _ HX2.out).1, (readsI_at (LS.outer (s := ⟨⟨#[]⟩, some ad, lc, ys, 0⟩) (Bag.bag_rd S9.out 3 rfl)) (j + 1) _ HX2.out).2.1, (readsI_at (LS.outer (s := ⟨⟨#[]⟩, some ad, lc, ys, 0⟩) (Bag.bag_rd S9.out 3 rfl)) (j + 1) _ HX2.out).2.2.1, (readsI_at (LS.outer (s := ⟨⟨#[]⟩, some ad, lc, ys, 0⟩) (Bag.bag_rd S9.out 3 rfl)) (j + 1) _ HX2.out).2.2.2⟩ (fun hS => ?_)
        clear hK K
        try simp only [zp0, zp1, zp2, zp3, zp4]
        refine tk 13 rfl ?_
        try simp only [zp0, zp1, zp2, zp3, zp4]
        refine wpAnyH_done (by kernel_rfl) ?_ _
        have hh := Bag.cs3 S9.out 0 rfl
        have f0 := hh.1; have f1 := hh.2.1; have f2 := hh.2.2; clear hh
        have hh := Bag.cs3 S9.out 1 rfl
        have f3 := hh.1; have f4 := hh.2.1; have f5 := hh.2.2; clear hh
        have hh := Bag.cs3 S9.out 2 rfl
        have f6 := hh.1; have f7 := hh.2.1; have f8 := hh.2.2; clear hh
        have f9 : World.cell? _ (ad.add (j * 4)) = some (.int .i64 kd) := (readsI_at (LS.outer (s := ⟨⟨#[]⟩, some ad, lc, ys, 0⟩) (Bag.bag_rd S9.out 3 rfl)) j _ HX1.out).1
        have f10 : World.cell? _ (⟨(ad.add (j * 4)).block, (ad.add (j * 4)).off + 1, none⟩) = some (.int .i64 n) := (readsI_at (LS.outer (s := ⟨⟨#[]⟩, some ad, lc, ys, 0⟩) (Bag.bag_rd S9.out 3 rfl)) j _ HX1.out).2.1
        have f11 : World.cell? _ (⟨(ad.add (j * 4)).block, (ad.add (j * 4)).off + 2, none⟩) = some (.string t) := (readsI_at (LS.outer (s := ⟨⟨#[]⟩, some ad, lc, ys, 0⟩) (Bag.bag_rd S9.out 3 rfl)) j _ HX1.out).2.2.1
        have f12 : World.cell? _ (⟨(ad.add (j * 4)).block, (ad.add (j * 4)).off + 3, none⟩) = some (.slice ia l.length ic) := (readsI_at (LS.outer (s := ⟨⟨#[]⟩, some ad, lc, ys, 0⟩) (Bag.bag_rd S9.out 3 rfl)) j _ HX1.out).2.2.2
        have f13 : World.cell? _ (ad.add ((j + 1) * 4)) = some (.int .i64 kd2) := (readsI_at (LS.outer (s := ⟨⟨#[]⟩, some ad, lc, ys, 0⟩) (Bag.bag_rd S9.out 3 rfl)) (j + 1) _ HX2.out).1
        have f14 : World.cell? _ (⟨(ad.add ((j + 1) * 4)).block, (ad.add ((j + 1) * 4)).off + 1, none⟩) = some (.int .i64 n2) := (readsI_at (LS.outer (s := ⟨⟨#[]⟩, some ad, lc, ys, 0⟩) (Bag.bag_rd S9.out 3 rfl)) (j + 1) _ HX2.out).2.1
        have f15 : World.cell? _ (⟨(ad.add ((j + 1) * 4)).block, (ad.add ((j + 1) * 4)).off + 2, none⟩) = some (.string t2) := (readsI_at (LS.outer (s := ⟨⟨#[]⟩, some ad, lc, ys, 0⟩) (Bag.bag_rd S9.out 3 rfl)) (j + 1) _ HX2.out).2.2.1
        have f16 : World.cell? _ (⟨(ad.add ((j + 1) * 4)).block, (ad.add ((j + 1) * 4)).off + 3, none⟩) = some (.slice ia2 l2.length ic2) := (readsI_at (LS.outer (s := ⟨⟨#[]⟩, some ad, lc, ys, 0⟩) (Bag.bag_rd S9.out 3 rfl)) (j + 1) _ HX2.out).2.2.2
        clear f0 f1 f2 f3 f4 f5 f6 f7 f8 f9 f10 f11 f12 f13 f14 f15 f16
        have hh := Bag.cs3 S9.out 1 rfl
        have f0 := hh.1; have f1 := hh.2.1; have f2 := hh.2.2; clear hh
        have hh := Bag.cs3 S9.out 2 rfl
        have f3 := hh.1; have f4 := hh.2.1; have f5 := hh.2.2; clear hh
        have f6 : World.cell? _ (ad.add (j * 4)) = some (.int .i64 kd) := (readsI_at (LS.outer (s := ⟨⟨#[]⟩, some ad, lc, ys, 0⟩) (Bag.bag_rd S9.out 3 rfl)) j _ HX1.out).1
        have f7 : World.cell? _ (⟨(ad.add (j * 4)).block, (ad.add (j * 4)).off + 1, none⟩) = some (.int .i64 n) := (readsI_at (LS.outer (s := ⟨⟨#[]⟩, some ad, lc, ys, 0⟩) (Bag.bag_rd S9.out 3 rfl)) j _ HX1.out).2.1
        have f8 : World.cell? _ (⟨(ad.add (j * 4)).block, (ad.add (j * 4)).off + 2, none⟩) = some (.string t) := (readsI_at (LS.outer (s := ⟨⟨#[]⟩, some ad, lc, ys, 0⟩) (Bag.bag_rd S9.out 3 rfl)) j _ HX1.out).2.2.1
        have f9 : World.cell? _ (⟨(ad.add (j * 4)).block, (ad.add (j * 4)).off + 3, none⟩) = some (.slice ia l.length ic) := (readsI_at (LS.outer (s := ⟨⟨#[]⟩, some ad, lc, ys, 0⟩) (Bag.bag_rd S9.out 3 rfl)) j _ HX1.out).2.2.2
        have f10 : World.cell? _ (ad.add ((j + 1) * 4)) = some (.int .i64 kd2) := (readsI_at (LS.outer (s := ⟨⟨#[]⟩, some ad, lc, ys, 0⟩) (Bag.bag_rd S9.out 3 rfl)) (j + 1) _ HX2.out).1
        have f11 : World.cell? _ (⟨(ad.add ((j + 1) * 4)).block, (ad.add ((j + 1) * 4)).off + 1, none⟩) = some (.int .i64 n2) := (readsI_at (LS.outer (s := ⟨⟨#[]⟩, some ad, lc, ys, 0⟩) (Bag.bag_rd S9.out 3 rfl)) (j + 1) _ HX2.out).2.1
        have f12 : World.cell? _ (⟨(ad.add ((j + 1) * 4)).block, (ad.add ((j + 1) * 4)).off + 2, none⟩) = some (.string t2) := (readsI_at (LS.outer (s := ⟨⟨#[]⟩, some ad, lc, ys, 0⟩) (Bag.bag_rd S9.out 3 rfl)) (j + 1) _ HX2.out).2.2.1
        have f13 : World.cell? _ (⟨(ad.add ((j + 1) * 4)).block, (ad.add ((j + 1) * 4)).off + 3, none⟩) = some (.slice ia2 l2.length ic2) := (readsI_at (LS.outer (s := ⟨⟨#[]⟩, some ad, lc, ys, 0⟩) (Bag.bag_rd S9.out 3 rfl)) (j + 1) _ HX2.out).2.2.2
        go_wp2_with fail
        refine bodyPost_ret (v := .tuple #[.agg #[.int .i64 kd, .int .i64 n, .string t], .agg #[.int .i64 kd2, .int .i64 n2, .string t2], .bool true]) (by simp [results, Try.results30, go_sem, *]) rfl ?_
        clear f0 f1 f2 f3 f4 f5 f6 f7 f8 f9 f10 f11 f12 f13
        obtain ⟨e1, e2, e3⟩ := uf_yes (ufO_some (t := f.data.toList) (l := conI ys) (i := j) (by rw [conI_length, ← HN.out]; omega) (by rw [HAD.out]; exact he') HA.out) HC1.out HC2.out
        exact ⟨by rw [← HY.out, e1, e2, e3]; rfl, S9.out.old⟩
      · have he' : (na == nb) = false := beq_no he
        go_wp2_with fail
        go_roundw
        case rel => exact ⟨j + 1, by omega, by go_num, And.intro (fun q hq => if e : q = j then by subst e; rw [HAD.out]; exact he' else HA.out q (by omega)) S6.out⟩
        case measure => simp [intOf]; omega
    · skip
      have hh := Bag.cs3 S3.out 1 rfl
      have f0 := hh.1; have f1 := hh.2.1; have f2 := hh.2.2; clear hh
      have hh := Bag.cs3 S3.out 2 rfl
      have f3 := hh.1; have f4 := hh.2.1; have f5 := hh.2.2; clear hh
      have hh := Bag.fs3 S3.out 1 rfl
      have z0 := hh.1; have z1 := hh.2.1; have z2 := hh.2.2; clear hh
      have y0 := Bag.free_at S3.out 2 rfl 0
      have y1 := Bag.free_at S3.out 2 rfl 1
      have y2 := Bag.free_at S3.out 2 rfl 2
      go_wp2_with fail
      clear f0 f1 f2 f3 f4 f5 z0 z1 z2 y0 y1 y2
      have S4 := Lib.hid (show Sl.Sep w _ [L4.boxR w.heap.size 26 #[.string name, .slice a xs.length c, .int .i64 auto], L4.boxR (w.heap.size + 1) 28 #[.int .i64 0, .int .i64 0, .string ⟨#[]⟩], L4.boxR (w.heap.size + 1 + 1) 28 #[.int .i64 0, .int .i64 0, .string ⟨#[]⟩], Bag.bag (rowI la lc ys :: rowsI ys)] from L5.put_box5 (L5.put_box5 (L5.put_box5 (S3.out) 1 rfl 0 (.int .i64 0)) 1 rfl 1 (.int .i64 0)) 1 rfl 2 (.string ⟨#[]⟩))
      clear S3
      have S5 := Lib.hid (show Sl.Sep w _ [L4.boxR w.heap.size 26 #[.string name, .slice a xs.length c, .int .i64 auto], L4.boxR (w.heap.size + 1) 28 #[.int .i64 0, .int .i64 0, .string ⟨#[]⟩], L4.boxR (w.heap.size + 1 + 1) 28 #[.int .i64 0, .int .i64 0, .string ⟨#[]⟩], Bag.bag (rowI la lc ys :: rowsI ys)] from L5.put_box5 (L5.put_box5 (L5.put_box5 (S4.out) 2 rfl 0 (.int .i64 0)) 2 rfl 1 (.int .i64 0)) 2 rfl 2 (.string ⟨#[]⟩))
      clear S4
      have hh := Bag.cs3 S5.out 1 rfl
      have f0 := hh.1; have f1 := hh.2.1; have f2 := hh.2.2; clear hh
      have hh := Bag.cs3 S5.out 2 rfl
      have f3 := hh.1; have f4 := hh.2.1; have f5 := hh.2.2; clear hh
      refine bodyPost_ret (v := .tuple #[.agg #[.int .i64 0, .int .i64 0, .string ⟨#[]⟩], .agg #[.int .i64 0, .int .i64 0, .string ⟨#[]⟩], .bool false]) (by simp [results, Try.results30, go_sem, *]) rfl ?_
      clear f0 f1 f2 f3 f4 f5
      obtain ⟨e1, e2, e3⟩ := uf_no (ufO_none (t := f.data.toList) (l := conI ys) (fun q hq => HA.out q (by rw [conI_length, ← HN.out] at hq; omega)))
      exact ⟨by rw [← HY.out, e1, e2, e3]; rfl, S5.out.old⟩
end Go.Proofs.Ytmnedjhfibmcnaa.L7

