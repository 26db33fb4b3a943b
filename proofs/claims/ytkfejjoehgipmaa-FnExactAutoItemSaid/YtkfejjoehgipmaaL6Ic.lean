/-
  The contract of chapter 6's IsStore of the program. Conditions: keys' texts of at most 2^40 bytes, at most 2^20 fields and items. (Written by my program gen_l6i.py.)
-/
import Derived.Test.YtkfejjoehgipmaaTk
import Derived.Test.YtkfejjoehgipmaaL6Ib
import Derived.Test.YtkfejjoehgipmaaL5Ib
import Derived.Test.YtkfejjoehgipmaaL4Im4
namespace Go.Proofs.Ytkfejjoehgipmaa.L6
set_option maxRecDepth 100000
open L4 (K isK cmpK R inR encU)
open L5 (F isR isN cellsF encR eqR Small)
open Go.ChangeShapes Go.WideShapes Go.ChangeAt Go.RowKit Mem Sl Ex L2 Sv Bag
set_option linter.unusedVariables false
set_option linter.unusedSimpArgs false

set_option maxHeartbeats 8000000 in
theorem isStore_any (y : LS) (hf : FitS y.con) (w : World) (hr : RowsRd w w.heap.size y.rows) :
    Calls Try.prog 22 #[y.v] w fun e w' => e = .returned (.bool (isS y.con)) ∧ Below w.heap.size w w' := by
  obtain ⟨name, a, c, xs, auto⟩ := y
  have HR := Lib.hid (fun w' (h : Below w.heap.size w w') => LS.outer (hr.below h))
  have HX := Lib.hid (fun w' (h : Below w.heap.size w w') => (LS.inner (hr.below h)).more h.size)
  have HF := Lib.hid hf.items
  have HNM := Lib.hid hf.name
  have hl := hf.len
  simp only [LS.con, conI_length] at hl
  dsimp only [LS.con] at HR HX HF HNM
  try unfold LS.v LS.cells LS.con
  try dsimp only
  obtain ⟨N, hN⟩ : ∃ n, n = xs.length := ⟨_, rfl⟩
  rw [← hN] at hl ⊢
  have hl' : (N : Int) ≤ 1048576 := by omega
  have HN := Lib.hid hN
  clear hN hr hf
  obtain ⟨bn, hbn⟩ : ∃ b, isN name.data.toList = b := ⟨_, rfl⟩
  have HIN := fun w => L5.isName_any name HNM.out w
  rw [hbn] at HIN
  replace HIN := Lib.hid HIN
  obtain ⟨ba, hba⟩ : ∃ b, L1.inB auto 0 1000000 = b := ⟨_, rfl⟩
  have HIA := fun w => L1.inRange_any auto 0 1000000 w
  rw [hba] at HIA
  replace HIA := Lib.hid HIA
  have HE := Lib.hid (show isS ⟨name, conI xs, auto⟩ = (isI (conI xs) && (bn && (decide (N ≤ 16) && ba))) from by unfold isS; rw [hbn, hba, conI_length, ← HN.out])
  clear hbn hba
  have S1 := Lib.hid (show Sl.Sep w (w.alloc (.cells #[.string name, .slice a N c, .int .i64 auto] 26)) [L4.boxR w.heap.size 26 #[.string name, .slice a N c, .int .i64 auto]] from L4.push_box (Sl.Sep.start w) 26 #[.string name, .slice a N c, .int .i64 auto] (w.heap.size) (by simp))
  obtain ⟨wa, hwa⟩ : ∃ u, u = (w.alloc (.cells #[.string name, .slice a N c, .int .i64 auto] 26)) := ⟨_, rfl⟩
  rw [← hwa] at S1
  go_enter Try.func22, Try.ntmps22
  go_upto_region 1 with fail
  rw [← hwa]
  clear hwa
  have f0 : World.cell? _ ⟨w.heap.size, 0, none⟩ = some (.string name) := Bag.cell_at S1.out 0 rfl 0 rfl
  have f1 : World.cell? _ ⟨w.heap.size, 1, none⟩ = some (.slice a N c) := Bag.cell_at S1.out 0 rfl 1 rfl
  have f2 : World.cell? _ ⟨w.heap.size, 2, none⟩ = some (.int .i64 auto) := Bag.cell_at S1.out 0 rfl 2 rfl
  cases bn with
  | false =>
    go_wp2_with fail
    go_at_call 75
    refine (HIN.out _).mono ?_
    rintro e w1 ⟨rfl, rfl⟩
    go_wp2_with fail
    go_ret
    exact ⟨by rw [HE.out]; simp, S1.out.old⟩
  | true =>
    go_wp2_with fail
    go_at_call 75
    refine (HIN.out _).mono ?_
    rintro e w1 ⟨rfl, rfl⟩
    by_cases h16 : N ≤ 16
    rotate_left
    · have h16i : (16 : Int) < (N : Int) := by omega
      have hd := decide_eq_false h16
      go_wp2_with fail
      go_ret
      exact ⟨by rw [HE.out, hd]; simp, S1.out.old⟩
    have h16i : ¬ (16 : Int) < (N : Int) := by omega
    have HD := Lib.hid (decide_eq_true h16)
    clear h16
    cases ba with
    | false =>
      go_wp2_with fail
      go_at_call 76
      refine (HIA.out _).mono ?_
      rintro e w2 ⟨rfl, rfl⟩
      go_wp2_with fail
      go_ret
      exact ⟨by rw [HE.out]; simp, S1.out.old⟩
    | true =>
      go_wp2_with fail
      go_at_call 76
      refine (HIA.out _).mono ?_
      rintro e w2 ⟨rfl, rfl⟩
      replace HE := Lib.hid (show isS ⟨name, conI xs, auto⟩ = isI (conI xs) from by rw [HE.out, HD.out]; simp)
      clear HD
      go_wp2_with fail
      clear f0 f1 f2
      go_loopw [24] (fun i wr => ∃ k : Nat, k ≤ N ∧ i = .int .i64 k ∧ Hid ((∀ j, j < k → okIx (conI xs) j = true) ∧ Sl.Sep w wr [L4.boxR w.heap.size 26 #[.string name, .slice a N c, .int .i64 auto]])) (fun i _ => N - (intOf i).toNat)
      case atStart => exact ⟨0, Nat.zero_le _, rfl, And.intro (fun j h => absurd h (by omega)) S1.out⟩
      case round =>
        obtain ⟨k, hk, rfl, hrel⟩ := hrel
        have HA := Lib.hid hrel.out.1
        have S2 := Lib.hid hrel.out.2
        clear hrel S1
        by_cases hlt : (k : Int) < (N : Int)
        · skip
          have hkl : k < xs.length := by have := HN.out; omega
          obtain ⟨ad, x, rfl, hx⟩ := readsI_some (HR.out _ S2.out.old) k hkl
          obtain ⟨⟨kd, n, t⟩, ia, ic, l⟩ := x
          have HK := Lib.hid (fun w' (h : Below w.heap.size w w') => readsI_at (HR.out _ h) k _ hx)
          try dsimp only at HK
          have HFI := Lib.hid (fit_at HF.out hx)
          try dsimp only [LI.con] at HFI
          have hci : k < (conI xs).length := by rw [conI_length]; exact hkl
          have HC := Lib.hid (show (conI xs)[k]? = some (⟨⟨kd, n, t⟩, l⟩ : It) from con_of hx)
          obtain ⟨bk, hbk⟩ : ∃ b, isK ⟨kd, n, t⟩ = b := ⟨_, rfl⟩
          have HIK := fun w => L4.implIsKey_any ⟨kd, n, t⟩ (by have : t.size ≤ 1099511627776 := HFI.out.text; show t.size ≤ _; omega) w
          rw [hbk] at HIK
          replace HIK := Lib.hid HIK
          have HBK := Lib.hid hbk
          obtain ⟨br, hbr⟩ : ∃ b, isR l = b := ⟨_, rfl⟩
          have HIR := fun w' (h : Below w.heap.size w w') => L5.isRecord_any ia ic l (by have : l.length ≤ 1048576 := HFI.out.len; omega) HFI.out.small w' (((HX.out _ h).at_ (rowsI_mem hx)).reads)
          rw [hbr] at HIR
          replace HIR := Lib.hid HIR
          have HBR := Lib.hid hbr
          clear hbk hbr hx
          have f0 : World.cell? _ ⟨w.heap.size, 0, none⟩ = some (.string name) := Bag.cell_at S2.out 0 rfl 0 rfl
          have f1 : World.cell? _ ⟨w.heap.size, 1, none⟩ = some (.slice (some ad) N c) := Bag.cell_at S2.out 0 rfl 1 rfl
          have f2 : World.cell? _ ⟨w.heap.size, 2, none⟩ = some (.int .i64 auto) := Bag.cell_at S2.out 0 rfl 2 rfl
          have f3 : World.cell? _ (ad.add (k * 4)) = some (.int .i64 kd) := (HK.out _ S2.out.old).1
          have f4 : World.cell? _ (⟨(ad.add (k * 4)).block, (ad.add (k * 4)).off + 1, none⟩) = some (.int .i64 n) := (HK.out _ S2.out.old).2.1
          have f5 : World.cell? _ (⟨(ad.add (k * 4)).block, (ad.add (k * 4)).off + 2, none⟩) = some (.string t) := (HK.out _ S2.out.old).2.2.1
          have f6 : World.cell? _ (⟨(ad.add (k * 4)).block, (ad.add (k * 4)).off + 3, none⟩) = some (.slice ia l.length ic) := (HK.out _ S2.out.old).2.2.2
          go_upto_region 6 with fail
          clear f0 f1 f2 f3 f4 f5 f6
          have S3 := Lib.hid (show Sl.Sep w _ [L4.boxR w.heap.size 26 #[.string name, .slice (some ad) N c, .int .i64 auto], L4.boxR wr.heap.size 40 #[.int .i64 kd, .int .i64 n, .string t, .slice ia l.length ic]] from L4.push_box S2.out 40 #[.int .i64 kd, .int .i64 n, .string t, .slice ia l.length ic] wr.heap.size rfl)
          clear S2
          obtain ⟨g1, hg⟩ : ∃ g', g' = wr.heap.size := ⟨_, rfl⟩
          rw [← hg] at S3 ⊢
          clear hg
          generalize wr.alloc (.cells #[.int .i64 kd, .int .i64 n, .string t, .slice ia l.length ic] 40) = w3 at S3 ⊢
          have f0 : World.cell? _ ⟨w.heap.size, 0, none⟩ = some (.string name) := Bag.cell_at S3.out 0 rfl 0 rfl
          have f1 : World.cell? _ ⟨w.heap.size, 1, none⟩ = some (.slice (some ad) N c) := Bag.cell_at S3.out 0 rfl 1 rfl
          have f2 : World.cell? _ ⟨w.heap.size, 2, none⟩ = some (.int .i64 auto) := Bag.cell_at S3.out 0 rfl 2 rfl
          have f3 : World.cell? _ ⟨g1, 0, none⟩ = some (.int .i64 kd) := Bag.cell_at S3.out 1 rfl 0 rfl
          have f4 : World.cell? _ ⟨g1, 1, none⟩ = some (.int .i64 n) := Bag.cell_at S3.out 1 rfl 1 rfl
          have f5 : World.cell? _ ⟨g1, 2, none⟩ = some (.string t) := Bag.cell_at S3.out 1 rfl 2 rfl
          have f6 : World.cell? _ ⟨g1, 3, none⟩ = some (.slice ia l.length ic) := Bag.cell_at S3.out 1 rfl 3 rfl
          have f7 : World.cell? _ (ad.add (k * 4)) = some (.int .i64 kd) := (HK.out _ S3.out.old).1
          have f8 : World.cell? _ (⟨(ad.add (k * 4)).block, (ad.add (k * 4)).off + 1, none⟩) = some (.int .i64 n) := (HK.out _ S3.out.old).2.1
          have f9 : World.cell? _ (⟨(ad.add (k * 4)).block, (ad.add (k * 4)).off + 2, none⟩) = some (.string t) := (HK.out _ S3.out.old).2.2.1
          have f10 : World.cell? _ (⟨(ad.add (k * 4)).block, (ad.add (k * 4)).off + 3, none⟩) = some (.slice ia l.length ic) := (HK.out _ S3.out.old).2.2.2
          cases bk with
          | false =>
            go_wp2_with fail
            go_at_call 77
            refine (HIK.out _).mono ?_
            rintro e w4 ⟨rfl, hb⟩
            clear f0 f1 f2 f3 f4 f5 f6 f7 f8 f9 f10
            have S4 := Lib.hid (show Sl.Sep w _ [L4.boxR w.heap.size 26 #[.string name, .slice (some ad) N c, .int .i64 auto], L4.boxR g1 40 #[.int .i64 kd, .int .i64 n, .string t, .slice ia l.length ic]] from S3.out.keep hb)
            clear S3
            clear hb
            have f0 : World.cell? _ ⟨w.heap.size, 0, none⟩ = some (.string name) := Bag.cell_at S4.out 0 rfl 0 rfl
            have f1 : World.cell? _ ⟨w.heap.size, 1, none⟩ = some (.slice (some ad) N c) := Bag.cell_at S4.out 0 rfl 1 rfl
            have f2 : World.cell? _ ⟨w.heap.size, 2, none⟩ = some (.int .i64 auto) := Bag.cell_at S4.out 0 rfl 2 rfl
            have f3 : World.cell? _ ⟨g1, 0, none⟩ = some (.int .i64 kd) := Bag.cell_at S4.out 1 rfl 0 rfl
            have f4 : World.cell? _ ⟨g1, 1, none⟩ = some (.int .i64 n) := Bag.cell_at S4.out 1 rfl 1 rfl
            have f5 : World.cell? _ ⟨g1, 2, none⟩ = some (.string t) := Bag.cell_at S4.out 1 rfl 2 rfl
            have f6 : World.cell? _ ⟨g1, 3, none⟩ = some (.slice ia l.length ic) := Bag.cell_at S4.out 1 rfl 3 rfl
            have f7 : World.cell? _ (ad.add (k * 4)) = some (.int .i64 kd) := (HK.out _ S4.out.old).1
            have f8 : World.cell? _ (⟨(ad.add (k * 4)).block, (ad.add (k * 4)).off + 1, none⟩) = some (.int .i64 n) := (HK.out _ S4.out.old).2.1
            have f9 : World.cell? _ (⟨(ad.add (k * 4)).block, (ad.add (k * 4)).off + 2, none⟩) = some (.string t) := (HK.out _ S4.out.old).2.2.1
            have f10 : World.cell? _ (⟨(ad.add (k * 4)).block, (ad.add (k * 4)).off + 3, none⟩) = some (.slice ia l.length ic) := (HK.out _ S4.out.old).2.2.2
            have HNO := Lib.hid (show isI (conI xs) = false from isI_no k hci (by rw [okIx_at HC.out]; dsimp only; rw [HBK.out]; rfl))
            go_wp2_with fail
            go_ret
            exact ⟨by rw [HE.out, HNO.out]; rfl, S4.out.old⟩
          | true =>
            go_wp2_with fail
            go_at_call 77
            refine (HIK.out _).mono ?_
            rintro e w4 ⟨rfl, hb⟩
            clear f0 f1 f2 f3 f4 f5 f6 f7 f8 f9 f10
            have S4 := Lib.hid (show Sl.Sep w _ [L4.boxR w.heap.size 26 #[.string name, .slice (some ad) N c, .int .i64 auto], L4.boxR g1 40 #[.int .i64 kd, .int .i64 n, .string t, .slice ia l.length ic]] from S3.out.keep hb)
            clear S3
            clear hb
            have f0 : World.cell? _ ⟨w.heap.size, 0, none⟩ = some (.string name) := Bag.cell_at S4.out 0 rfl 0 rfl
            have f1 : World.cell? _ ⟨w.heap.size, 1, none⟩ = some (.slice (some ad) N c) := Bag.cell_at S4.out 0 rfl 1 rfl
            have f2 : World.cell? _ ⟨w.heap.size, 2, none⟩ = some (.int .i64 auto) := Bag.cell_at S4.out 0 rfl 2 rfl
            have f3 : World.cell? _ ⟨g1, 0, none⟩ = some (.int .i64 kd) := Bag.cell_at S4.out 1 rfl 0 rfl
            have f4 : World.cell? _ ⟨g1, 1, none⟩ = some (.int .i64 n) := Bag.cell_at S4.out 1 rfl 1 rfl
            have f5 : World.cell? _ ⟨g1, 2, none⟩ = some (.string t) := Bag.cell_at S4.out 1 rfl 2 rfl
            have f6 : World.cell? _ ⟨g1, 3, none⟩ = some (.slice ia l.length ic) := Bag.cell_at S4.out 1 rfl 3 rfl
            have f7 : World.cell? _ (ad.add (k * 4)) = some (.int .i64 kd) := (HK.out _ S4.out.old).1
            have f8 : World.cell? _ (⟨(ad.add (k * 4)).block, (ad.add (k * 4)).off + 1, none⟩) = some (.int .i64 n) := (HK.out _ S4.out.old).2.1
            have f9 : World.cell? _ (⟨(ad.add (k * 4)).block, (ad.add (k * 4)).off + 2, none⟩) = some (.string t) := (HK.out _ S4.out.old).2.2.1
            have f10 : World.cell? _ (⟨(ad.add (k * 4)).block, (ad.add (k * 4)).off + 3, none⟩) = some (.slice ia l.length ic) := (HK.out _ S4.out.old).2.2.2
            cases br with
            | false =>
              go_wp2_with fail
              go_at_call 78
              refine (HIR.out _ S4.out.old).mono ?_
              rintro e w5 ⟨rfl, hb⟩
              clear f0 f1 f2 f3 f4 f5 f6 f7 f8 f9 f10
              have S5 := Lib.hid (show Sl.Sep w _ [L4.boxR w.heap.size 26 #[.string name, .slice (some ad) N c, .int .i64 auto], L4.boxR g1 40 #[.int .i64 kd, .int .i64 n, .string t, .slice ia l.length ic]] from S4.out.keep hb)
              clear S4
              clear hb
              have f0 : World.cell? _ ⟨w.heap.size, 0, none⟩ = some (.string name) := Bag.cell_at S5.out 0 rfl 0 rfl
              have f1 : World.cell? _ ⟨w.heap.size, 1, none⟩ = some (.slice (some ad) N c) := Bag.cell_at S5.out 0 rfl 1 rfl
              have f2 : World.cell? _ ⟨w.heap.size, 2, none⟩ = some (.int .i64 auto) := Bag.cell_at S5.out 0 rfl 2 rfl
              have f3 : World.cell? _ ⟨g1, 0, none⟩ = some (.int .i64 kd) := Bag.cell_at S5.out 1 rfl 0 rfl
              have f4 : World.cell? _ ⟨g1, 1, none⟩ = some (.int .i64 n) := Bag.cell_at S5.out 1 rfl 1 rfl
              have f5 : World.cell? _ ⟨g1, 2, none⟩ = some (.string t) := Bag.cell_at S5.out 1 rfl 2 rfl
              have f6 : World.cell? _ ⟨g1, 3, none⟩ = some (.slice ia l.length ic) := Bag.cell_at S5.out 1 rfl 3 rfl
              have f7 : World.cell? _ (ad.add (k * 4)) = some (.int .i64 kd) := (HK.out _ S5.out.old).1
              have f8 : World.cell? _ (⟨(ad.add (k * 4)).block, (ad.add (k * 4)).off + 1, none⟩) = some (.int .i64 n) := (HK.out _ S5.out.old).2.1
              have f9 : World.cell? _ (⟨(ad.add (k * 4)).block, (ad.add (k * 4)).off + 2, none⟩) = some (.string t) := (HK.out _ S5.out.old).2.2.1
              have f10 : World.cell? _ (⟨(ad.add (k * 4)).block, (ad.add (k * 4)).off + 3, none⟩) = some (.slice ia l.length ic) := (HK.out _ S5.out.old).2.2.2
              have HNO := Lib.hid (show isI (conI xs) = false from isI_no k hci (by rw [okIx_at HC.out]; dsimp only; rw [HBK.out, HBR.out]; rfl))
              go_wp2_with fail
              go_ret
              exact ⟨by rw [HE.out, HNO.out]; rfl, S5.out.old⟩
            | true =>
              go_wp2_with fail
              go_at_call 78
              refine (HIR.out _ S4.out.old).mono ?_
              rintro e w5 ⟨rfl, hb⟩
              clear f0 f1 f2 f3 f4 f5 f6 f7 f8 f9 f10
              have S5 := Lib.hid (show Sl.Sep w _ [L4.boxR w.heap.size 26 #[.string name, .slice (some ad) N c, .int .i64 auto], L4.boxR g1 40 #[.int .i64 kd, .int .i64 n, .string t, .slice ia l.length ic]] from S4.out.keep hb)
              clear S4
              clear hb
              have f0 : World.cell? _ ⟨w.heap.size, 0, none⟩ = some (.string name) := Bag.cell_at S5.out 0 rfl 0 rfl
              have f1 : World.cell? _ ⟨w.heap.size, 1, none⟩ = some (.slice (some ad) N c) := Bag.cell_at S5.out 0 rfl 1 rfl
              have f2 : World.cell? _ ⟨w.heap.size, 2, none⟩ = some (.int .i64 auto) := Bag.cell_at S5.out 0 rfl 2 rfl
              have f3 : World.cell? _ ⟨g1, 0, none⟩ = some (.int .i64 kd) := Bag.cell_at S5.out 1 rfl 0 rfl
              have f4 : World.cell? _ ⟨g1, 1, none⟩ = some (.int .i64 n) := Bag.cell_at S5.out 1 rfl 1 rfl
              have f5 : World.cell? _ ⟨g1, 2, none⟩ = some (.string t) := Bag.cell_at S5.out 1 rfl 2 rfl
              have f6 : World.cell? _ ⟨g1, 3, none⟩ = some (.slice ia l.length ic) := Bag.cell_at S5.out 1 rfl 3 rfl
              have f7 : World.cell? _ (ad.add (k * 4)) = some (.int .i64 kd) := (HK.out _ S5.out.old).1
              have f8 : World.cell? _ (⟨(ad.add (k * 4)).block, (ad.add (k * 4)).off + 1, none⟩) = some (.int .i64 n) := (HK.out _ S5.out.old).2.1
              have f9 : World.cell? _ (⟨(ad.add (k * 4)).block, (ad.add (k * 4)).off + 2, none⟩) = some (.string t) := (HK.out _ S5.out.old).2.2.1
              have f10 : World.cell? _ (⟨(ad.add (k * 4)).block, (ad.add (k * 4)).off + 3, none⟩) = some (.slice ia l.length ic) := (HK.out _ S5.out.old).2.2.2
              rcases Nat.eq_zero_or_pos k with hk0 | hk0
              · have hk1 : (0 < k) = False := by simp; omega
                have HZ := Lib.hid hk0
                clear hk0
                go_upto_region 8 with fail
                clear f0 f1 f2 f3 f4 f5 f6 f7 f8 f9 f10
                refine wp_region_held_drew (S := (fun w' => World.cell? w' ⟨w.heap.size, 0, none⟩ = some (.string name) ∧ World.cell? w' ⟨w.heap.size, 1, none⟩ = some (.slice (some ad) N c) ∧ World.cell? w' ⟨w.heap.size, 2, none⟩ = some (.int .i64 auto) ∧ World.cell? w' ⟨g1, 0, none⟩ = some (.int .i64 kd) ∧ World.cell? w' ⟨g1, 1, none⟩ = some (.int .i64 n) ∧ World.cell? w' ⟨g1, 2, none⟩ = some (.string t) ∧ World.cell? w' ⟨g1, 3, none⟩ = some (.slice ia l.length ic) ∧ World.cell? w' (ad.add (k * 4)) = some (.int .i64 kd) ∧ World.cell? w' (⟨(ad.add (k * 4)).block, (ad.add (k * 4)).off + 1, none⟩) = some (.int .i64 n) ∧ World.cell? w' (⟨(ad.add (k * 4)).block, (ad.add (k * 4)).off + 2, none⟩) = some (.string t) ∧ World.cell? w' (⟨(ad.add (k * 4)).block, (ad.add (k * 4)).off + 3, none⟩) = some (.slice ia l.length ic))) (by kernel_rfl) ⟨Bag.cell_at S5.out 0 rfl 0 rfl, Bag.cell_at S5.out 0 rfl 1 rfl, Bag.cell_at S5.out 0 rfl 2 rfl, Bag.cell_at S5.out 1 rfl 0 rfl, Bag.cell_at S5.out 1 rfl 1 rfl, Bag.cell_at S5.out 1 rfl 2 rfl, Bag.cell_at S5.out 1 rfl 3 rfl, (HK.out _ S5.out.old).1, (HK.out _ S5.out.old).2.1, (HK.out _ S5.out.old).2.2.1, (HK.out _ S5.out.old).2.2.2⟩ (fun hS => ?_)
                have S6 := Lib.hid (show Sl.Sep w _ [L4.boxR w.heap.size 26 #[.string name, .slice (some ad) N c, .int .i64 auto], L4.boxR g1 40 #[.int .i64 kd, .int .i64 n, .string t, .slice ia l.length ic]] from Bag.drew1 S5.out)
                clear S5
                generalize World.drew _ = w6 at hS S6 ⊢
                refine tk 0 rfl ?_
                try simp only [zp0, zp1, zp2, zp3, zp4]
                refine tk 1 rfl ?_
                try simp only [zp0, zp1, zp2, zp3, zp4]
                refine tk 2 rfl ?_
                try simp only [zp0, zp1, zp2, zp3, zp4]
                refine sk 3 rfl ?_
                try simp only [zp0, zp1, zp2, zp3, zp4]
                refine sk 4 rfl ?_
                try simp only [zp0, zp1, zp2, zp3, zp4]
                refine sk 5 rfl ?_
                try simp only [zp0, zp1, zp2, zp3, zp4]
                refine sk 6 rfl ?_
                try simp only [zp0, zp1, zp2, zp3, zp4]
                refine sk 7 rfl ?_
                try simp only [zp0, zp1, zp2, zp3, zp4]
                refine sk 8 rfl ?_
                try simp only [zp0, zp1, zp2, zp3, zp4]
                refine sk 9 rfl ?_
                try simp only [zp0, zp1, zp2, zp3, zp4]
                refine sk 10 rfl ?_
                try simp only [zp0, zp1, zp2, zp3, zp4]
                refine sk 11 rfl ?_
                try simp only [zp0, zp1, zp2, zp3, zp4]
                refine Reg.skip_one (i := 12) rfl (by kernel_rfl) (by rfl) (by assumption) ?_
                try simp only [zp0, zp1, zp2, zp3, zp4]
                refine sk 13 rfl ?_
                try simp only [zp0, zp1, zp2, zp3, zp4]
                refine tk 14 rfl ?_
                try simp only [zp0, zp1, zp2, zp3, zp4]
                refine wpAnyH_done (by kernel_rfl) ?_ _
                have f0 : World.cell? _ ⟨w.heap.size, 0, none⟩ = some (.string name) := Bag.cell_at S6.out 0 rfl 0 rfl
                have f1 : World.cell? _ ⟨w.heap.size, 1, none⟩ = some (.slice (some ad) N c) := Bag.cell_at S6.out 0 rfl 1 rfl
                have f2 : World.cell? _ ⟨w.heap.size, 2, none⟩ = some (.int .i64 auto) := Bag.cell_at S6.out 0 rfl 2 rfl
                have f3 : World.cell? _ ⟨g1, 0, none⟩ = some (.int .i64 kd) := Bag.cell_at S6.out 1 rfl 0 rfl
                have f4 : World.cell? _ ⟨g1, 1, none⟩ = some (.int .i64 n) := Bag.cell_at S6.out 1 rfl 1 rfl
                have f5 : World.cell? _ ⟨g1, 2, none⟩ = some (.string t) := Bag.cell_at S6.out 1 rfl 2 rfl
                have f6 : World.cell? _ ⟨g1, 3, none⟩ = some (.slice ia l.length ic) := Bag.cell_at S6.out 1 rfl 3 rfl
                have f7 : World.cell? _ (ad.add (k * 4)) = some (.int .i64 kd) := (HK.out _ S6.out.old).1
                have f8 : World.cell? _ (⟨(ad.add (k * 4)).block, (ad.add (k * 4)).off + 1, none⟩) = some (.int .i64 n) := (HK.out _ S6.out.old).2.1
                have f9 : World.cell? _ (⟨(ad.add (k * 4)).block, (ad.add (k * 4)).off + 2, none⟩) = some (.string t) := (HK.out _ S6.out.old).2.2.1
                have f10 : World.cell? _ (⟨(ad.add (k * 4)).block, (ad.add (k * 4)).off + 3, none⟩) = some (.slice ia l.length ic) := (HK.out _ S6.out.old).2.2.2
                clear f0 f1 f2 f3 f4 f5 f6 f7 f8 f9 f10
                have S7 := Lib.hid (show Sl.Sep w _ [L4.boxR w.heap.size 26 #[.string name, .slice (some ad) N c, .int .i64 auto]] from Bag.take S6.out [0] (by rfl) (by decide))
                clear S6
                go_wp2_with fail
                go_roundw
                case rel => exact ⟨k + 1, by omega, by go_num, And.intro (fun j h => by
                  by_cases e : j < k
                  · exact HA.out j e
                  · obtain rfl : j = k := by omega
                    rw [okIx_at HC.out]; dsimp only; rw [HBK.out, HBR.out, HZ.out]; rfl) S7.out⟩
                case measure => simp [intOf]; omega
              · obtain ⟨m, hkm⟩ : ∃ m, k = m + 1 := ⟨k - 1, by omega⟩
                have hki : (k : Int) - 1 = (m : Int) := by omega
                have HKM := Lib.hid hkm
                have hm0 : m < xs.length := by omega
                have hmi : (m : Int) < (N : Int) := by omega
                have hmw : IntKind.i64.wrap (m : Int) = (m : Int) := IntWalk.i64_in _ ⟨by omega, by omega⟩
                clear hkm
                clear f0 f1 f2 f3 f4 f5 f6 f7 f8 f9 f10
                obtain ⟨ad_, x2, e_, hx2⟩ := readsI_some (HR.out _ S5.out.old) m hm0
                clear e_ ad_
                obtain ⟨⟨kd2, n2, t2⟩, ia2, ic2, l2⟩ := x2
                have HK2 := Lib.hid (fun w' (h : Below w.heap.size w w') => readsI_at (HR.out _ h) m _ hx2)
                try dsimp only at HK2
                have HC2 := Lib.hid (show (conI xs)[m]? = some (⟨⟨kd2, n2, t2⟩, l2⟩ : It) from con_of hx2)
                have HFI2 := Lib.hid (fit_at HF.out hx2)
                clear hx2
                obtain ⟨cv, hcv⟩ : ∃ b, cmpK ⟨kd2, n2, t2⟩ ⟨kd, n, t⟩ = b := ⟨_, rfl⟩
                have HCMP := fun w => L4.implCompareKeys_any ⟨kd2, n2, t2⟩ ⟨kd, n, t⟩ (by have : t2.size ≤ 1099511627776 := HFI2.out.text; show t2.size ≤ _; omega) (by have : t.size ≤ 1099511627776 := HFI.out.text; show t.size ≤ _; omega) w
                rw [hcv] at HCMP
                replace HCMP := Lib.hid HCMP
                have HCV := Lib.hid hcv
                clear hcv
                have f0 : World.cell? _ ⟨w.heap.size, 0, none⟩ = some (.string name) := Bag.cell_at S5.out 0 rfl 0 rfl
                have f1 : World.cell? _ ⟨w.heap.size, 1, none⟩ = some (.slice (some ad) N c) := Bag.cell_at S5.out 0 rfl 1 rfl
                have f2 : World.cell? _ ⟨w.heap.size, 2, none⟩ = some (.int .i64 auto) := Bag.cell_at S5.out 0 rfl 2 rfl
                have f3 : World.cell? _ ⟨g1, 0, none⟩ = some (.int .i64 kd) := Bag.cell_at S5.out 1 rfl 0 rfl
                have f4 : World.cell? _ ⟨g1, 1, none⟩ = some (.int .i64 n) := Bag.cell_at S5.out 1 rfl 1 rfl
                have f5 : World.cell? _ ⟨g1, 2, none⟩ = some (.string t) := Bag.cell_at S5.out 1 rfl 2 rfl
                have f6 : World.cell? _ ⟨g1, 3, none⟩ = some (.slice ia l.length ic) := Bag.cell_at S5.out 1 rfl 3 rfl
                have f7 : World.cell? _ (ad.add (k * 4)) = some (.int .i64 kd) := (HK.out _ S5.out.old).1
                have f8 : World.cell? _ (⟨(ad.add (k * 4)).block, (ad.add (k * 4)).off + 1, none⟩) = some (.int .i64 n) := (HK.out _ S5.out.old).2.1
                have f9 : World.cell? _ (⟨(ad.add (k * 4)).block, (ad.add (k * 4)).off + 2, none⟩) = some (.string t) := (HK.out _ S5.out.old).2.2.1
                have f10 : World.cell? _ (⟨(ad.add (k * 4)).block, (ad.add (k * 4)).off + 3, none⟩) = some (.slice ia l.length ic) := (HK.out _ S5.out.old).2.2.2
                have f11 : World.cell? _ (ad.add (m * 4)) = some (.int .i64 kd2) := (HK2.out _ S5.out.old).1
                have f12 : World.cell? _ (⟨(ad.add (m * 4)).block, (ad.add (m * 4)).off + 1, none⟩) = some (.int .i64 n2) := (HK2.out _ S5.out.old).2.1
                have f13 : World.cell? _ (⟨(ad.add (m * 4)).block, (ad.add (m * 4)).off + 2, none⟩) = some (.string t2) := (HK2.out _ S5.out.old).2.2.1
                have f14 : World.cell? _ (⟨(ad.add (m * 4)).block, (ad.add (m * 4)).off + 3, none⟩) = some (.slice ia2 l2.length ic2) := (HK2.out _ S5.out.old).2.2.2
                by_cases hc : cv < 0
                · have hc2 : ¬ 0 ≤ cv := by omega
                  go_upto_region 8 with fail
                  clear f0 f1 f2 f3 f4 f5 f6 f7 f8 f9 f10 f11 f12 f13 f14
                  refine wp_region_held_drew (S := (fun w' => World.cell? w' ⟨w.heap.size, 0, none⟩ = some (.string name) ∧ World.cell? w' ⟨w.heap.size, 1, none⟩ = some (.slice (some ad) N c) ∧ World.cell? w' ⟨w.heap.size, 2, none⟩ = some (.int .i64 auto) ∧ World.cell? w' ⟨g1, 0, none⟩ = some (.int .i64 kd) ∧ World.cell? w' ⟨g1, 1, none⟩ = some (.int .i64 n) ∧ World.cell? w' ⟨g1, 2, none⟩ = some (.string t) ∧ World.cell? w' ⟨g1, 3, none⟩ = some (.slice ia l.length ic) ∧ World.cell? w' (ad.add (k * 4)) = some (.int .i64 kd) ∧ World.cell? w' (⟨(ad.add (k * 4)).block, (ad.add (k * 4)).off + 1, none⟩) = some (.int .i64 n) ∧ World.cell? w' (⟨(ad.add (k * 4)).block, (ad.add (k * 4)).off + 2, none⟩) = some (.string t) ∧ World.cell? w' (⟨(ad.add (k * 4)).block, (ad.add (k * 4)).off + 3, none⟩) = some (.slice ia l.length ic) ∧ World.cell? w' (ad.add (m * 4)) = some (.int .i64 kd2) ∧ World.cell? w' (⟨(ad.add (m * 4)).block, (ad.add (m * 4)).off + 1, none⟩) = some (.int .i64 n2) ∧ World.cell? w' (⟨(ad.add (m * 4)).block, (ad.add (m * 4)).off + 2, none⟩) = some (.string t2) ∧ World.cell? w' (⟨(ad.add (m * 4)).block, (ad.add (m * 4)).off + 3, none⟩) = some (.slice ia2 l2.length ic2))) (by kernel_rfl) ⟨Bag.cell_at S5.out 0 rfl 0 rfl, Bag.cell_at S5.out 0 rfl 1 rfl, Bag.cell_at S5.out 0 rfl 2 rfl, Bag.cell_at S5.out 1 rfl 0 rfl, Bag.cell_at S5.out 1 rfl 1 rfl, Bag.cell_at S5.out 1 rfl 2 rfl, Bag.cell_at S5.out 1 rfl 3 rfl, (HK.out _ S5.out.old).1, (HK.out _ S5.out.old).2.1, (HK.out _ S5.out.old).2.2.1, (HK.out _ S5.out.old).2.2.2, (HK2.out _ S5.out.old).1, (HK2.out _ S5.out.old).2.1, (HK2.out _ S5.out.old).2.2.1, (HK2.out _ S5.out.old).2.2.2⟩ (fun hS => ?_)
                  have S6 := Lib.hid (show Sl.Sep w _ [L4.boxR w.heap.size 26 #[.string name, .slice (some ad) N c, .int .i64 auto], L4.boxR g1 40 #[.int .i64 kd, .int .i64 n, .string t, .slice ia l.length ic]] from Bag.drew1 S5.out)
                  clear S5
                  generalize World.drew _ = w6 at hS S6 ⊢
                  refine tk 0 rfl ?_
                  try simp only [zp0, zp1, zp2, zp3, zp4]
                  refine tk 1 rfl ?_
                  try simp only [zp0, zp1, zp2, zp3, zp4]
                  refine tk 2 rfl ?_
                  try simp only [zp0, zp1, zp2, zp3, zp4]
                  refine tk 3 rfl ?_
                  try simp only [zp0, zp1, zp2, zp3, zp4]
                  refine tk 4 rfl ?_
                  try simp only [zp0, zp1, zp2, zp3, zp4]
                  refine tk 5 rfl ?_
                  try simp only [zp0, zp1, zp2, zp3, zp4]
                  refine tk 6 rfl ?_
                  try simp only [zp0, zp1, zp2, zp3, zp4]
                  refine tk 7 rfl ?_
                  try simp only [zp0, zp1, zp2, zp3, zp4]
                  refine tk 8 rfl ?_
                  try simp only [zp0, zp1, zp2, zp3, zp4]
                  refine tk 9 rfl ?_
                  try simp only [zp0, zp1, zp2, zp3, zp4]
                  refine tk 10 rfl ?_
                  try simp only [zp0, zp1, zp2, zp3, zp4]
                  refine tk 11 rfl ?_
                  try simp only [zp0, zp1, zp2, zp3, zp4]
                  refine Reg.one_op (i := 12) rfl (by kernel_rfl) (fun K hK => ?_)
                  go_simp
                  go_at_call 79
                  refine (HCMP.out _).mono ?_
                  rintro e w7 ⟨rfl, hb⟩
                  have S7 := Lib.hid (show Sl.Sep w _ [L4.boxR w.heap.size 26 #[.string name, .slice (some ad) N c, .int .i64 auto], L4.boxR g1 40 #[.int .i64 kd, .int .i64 n, .string t, .slice ia l.length ic]] from S6.out.keep hb)
                  clear S6
                  clear hb
                  go_wp2_with fail
                  refine hK.out _ _ ⟨Bag.cell_at S7.out 0 rfl 0 rfl, Bag.cell_at S7.out 0 rfl 1 rfl, Bag.cell_at S7.out 0 rfl 2 rfl, Bag.cell_at S7.out 1 rfl 0 rfl, Bag.cell_at S7.out 1 rfl 1 rfl, Bag.cell_at S7.out 1 rfl 2 rfl, Bag.cell_at S7.out 1 rfl 3 rfl, (HK.out _ S7.out.old).1, (HK.out _ S7.out.old).2.1, (HK.out _ S7.out.old).2.2.1, (HK.out _ S7.out.old).2.2.2, (HK2.out _ S7.out.old).1, (HK2.out _ S7.out.old).2.1, (HK2.out _ S7.out.old).2.2.1, (HK2.out _ S7.out.old).2.2.2⟩ (fun hS => ?_)
                  clear hK K
                  try simp only [zp0, zp1, zp2, zp3, zp4]
                  refine tk 13 rfl ?_
                  try simp only [zp0, zp1, zp2, zp3, zp4]
                  refine tk 14 rfl ?_
                  try simp only [zp0, zp1, zp2, zp3, zp4]
                  refine wpAnyH_done (by kernel_rfl) ?_ _
                  have f0 : World.cell? _ ⟨w.heap.size, 0, none⟩ = some (.string name) := Bag.cell_at S7.out 0 rfl 0 rfl
                  have f1 : World.cell? _ ⟨w.heap.size, 1, none⟩ = some (.slice (some ad) N c) := Bag.cell_at S7.out 0 rfl 1 rfl
                  have f2 : World.cell? _ ⟨w.heap.size, 2, none⟩ = some (.int .i64 auto) := Bag.cell_at S7.out 0 rfl 2 rfl
                  have f3 : World.cell? _ ⟨g1, 0, none⟩ = some (.int .i64 kd) := Bag.cell_at S7.out 1 rfl 0 rfl
                  have f4 : World.cell? _ ⟨g1, 1, none⟩ = some (.int .i64 n) := Bag.cell_at S7.out 1 rfl 1 rfl
                  have f5 : World.cell? _ ⟨g1, 2, none⟩ = some (.string t) := Bag.cell_at S7.out 1 rfl 2 rfl
                  have f6 : World.cell? _ ⟨g1, 3, none⟩ = some (.slice ia l.length ic) := Bag.cell_at S7.out 1 rfl 3 rfl
                  have f7 : World.cell? _ (ad.add (k * 4)) = some (.int .i64 kd) := (HK.out _ S7.out.old).1
                  have f8 : World.cell? _ (⟨(ad.add (k * 4)).block, (ad.add (k * 4)).off + 1, none⟩) = some (.int .i64 n) := (HK.out _ S7.out.old).2.1
                  have f9 : World.cell? _ (⟨(ad.add (k * 4)).block, (ad.add (k * 4)).off + 2, none⟩) = some (.string t) := (HK.out _ S7.out.old).2.2.1
                  have f10 : World.cell? _ (⟨(ad.add (k * 4)).block, (ad.add (k * 4)).off + 3, none⟩) = some (.slice ia l.length ic) := (HK.out _ S7.out.old).2.2.2
                  have f11 : World.cell? _ (ad.add (m * 4)) = some (.int .i64 kd2) := (HK2.out _ S7.out.old).1
                  have f12 : World.cell? _ (⟨(ad.add (m * 4)).block, (ad.add (m * 4)).off + 1, none⟩) = some (.int .i64 n2) := (HK2.out _ S7.out.old).2.1
                  have f13 : World.cell? _ (⟨(ad.add (m * 4)).block, (ad.add (m * 4)).off + 2, none⟩) = some (.string t2) := (HK2.out _ S7.out.old).2.2.1
                  have f14 : World.cell? _ (⟨(ad.add (m * 4)).block, (ad.add (m * 4)).off + 3, none⟩) = some (.slice ia2 l2.length ic2) := (HK2.out _ S7.out.old).2.2.2
                  clear f0 f1 f2 f3 f4 f5 f6 f7 f8 f9 f10 f11 f12 f13 f14
                  have S8 := Lib.hid (show Sl.Sep w _ [L4.boxR w.heap.size 26 #[.string name, .slice (some ad) N c, .int .i64 auto]] from Bag.take S7.out [0] (by rfl) (by decide))
                  clear S7
                  go_wp2_with fail
                  go_roundw
                  case rel => exact ⟨k + 1, by omega, by go_num, And.intro (fun j h => by
                    by_cases e : j < k
                    · exact HA.out j e
                    · obtain rfl : j = k := by omega
                      rw [okIx_at HC.out, HKM.out, behind_at HC2.out]; dsimp only; rw [HBK.out, HBR.out, HCV.out]; simpa using hc) S8.out⟩
                  case measure => simp [intOf]; omega
                · have hc2 : 0 ≤ cv := by omega
                  go_upto_region 8 with fail
                  clear f0 f1 f2 f3 f4 f5 f6 f7 f8 f9 f10 f11 f12 f13 f14
                  refine wp_region_held_drew (S := (fun w' => World.cell? w' ⟨w.heap.size, 0, none⟩ = some (.string name) ∧ World.cell? w' ⟨w.heap.size, 1, none⟩ = some (.slice (some ad) N c) ∧ World.cell? w' ⟨w.heap.size, 2, none⟩ = some (.int .i64 auto) ∧ World.cell? w' ⟨g1, 0, none⟩ = some (.int .i64 kd) ∧ World.cell? w' ⟨g1, 1, none⟩ = some (.int .i64 n) ∧ World.cell? w' ⟨g1, 2, none⟩ = some (.string t) ∧ World.cell? w' ⟨g1, 3, none⟩ = some (.slice ia l.length ic) ∧ World.cell? w' (ad.add (k * 4)) = some (.int .i64 kd) ∧ World.cell? w' (⟨(ad.add (k * 4)).block, (ad.add (k * 4)).off + 1, none⟩) = some (.int .i64 n) ∧ World.cell? w' (⟨(ad.add (k * 4)).block, (ad.add (k * 4)).off + 2, none⟩) = some (.string t) ∧ World.cell? w' (⟨(ad.add (k * 4)).block, (ad.add (k * 4)).off + 3, none⟩) = some (.slice ia l.length ic) ∧ World.cell? w' (ad.add (m * 4)) = some (.int .i64 kd2) ∧ World.cell? w' (⟨(ad.add (m * 4)).block, (ad.add (m * 4)).off + 1, none⟩) = some (.int .i64 n2) ∧ World.cell? w' (⟨(ad.add (m * 4)).block, (ad.add (m * 4)).off + 2, none⟩) = some (.string t2) ∧ World.cell? w' (⟨(ad.add (m * 4)).block, (ad.add (m * 4)).off + 3, none⟩) = some (.slice ia2 l2.length ic2))) (by kernel_rfl) ⟨Bag.cell_at S5.out 0 rfl 0 rfl, Bag.cell_at S5.out 0 rfl 1 rfl, Bag.cell_at S5.out 0 rfl 2 rfl, Bag.cell_at S5.out 1 rfl 0 rfl, Bag.cell_at S5.out 1 rfl 1 rfl, Bag.cell_at S5.out 1 rfl 2 rfl, Bag.cell_at S5.out 1 rfl 3 rfl, (HK.out _ S5.out.old).1, (HK.out _ S5.out.old).2.1, (HK.out _ S5.out.old).2.2.1, (HK.out _ S5.out.old).2.2.2, (HK2.out _ S5.out.old).1, (HK2.out _ S5.out.old).2.1, (HK2.out _ S5.out.old).2.2.1, (HK2.out _ S5.out.old).2.2.2⟩ (fun hS => ?_)
                  have S6 := Lib.hid (show Sl.Sep w _ [L4.boxR w.heap.size 26 #[.string name, .slice (some ad) N c, .int .i64 auto], L4.boxR g1 40 #[.int .i64 kd, .int .i64 n, .string t, .slice ia l.length ic]] from Bag.drew1 S5.out)
                  clear S5
                  generalize World.drew _ = w6 at hS S6 ⊢
                  refine tk 0 rfl ?_
                  try simp only [zp0, zp1, zp2, zp3, zp4]
                  refine tk 1 rfl ?_
                  try simp only [zp0, zp1, zp2, zp3, zp4]
                  refine tk 2 rfl ?_
                  try simp only [zp0, zp1, zp2, zp3, zp4]
                  refine tk 3 rfl ?_
                  try simp only [zp0, zp1, zp2, zp3, zp4]
                  refine tk 4 rfl ?_
                  try simp only [zp0, zp1, zp2, zp3, zp4]
                  refine tk 5 rfl ?_
                  try simp only [zp0, zp1, zp2, zp3, zp4]
                  refine tk 6 rfl ?_
                  try simp only [zp0, zp1, zp2, zp3, zp4]
                  refine tk 7 rfl ?_
                  try simp only [zp0, zp1, zp2, zp3, zp4]
                  refine tk 8 rfl ?_
                  try simp only [zp0, zp1, zp2, zp3, zp4]
                  refine tk 9 rfl ?_
                  try simp only [zp0, zp1, zp2, zp3, zp4]
                  refine tk 10 rfl ?_
                  try simp only [zp0, zp1, zp2, zp3, zp4]
                  refine tk 11 rfl ?_
                  try simp only [zp0, zp1, zp2, zp3, zp4]
                  refine Reg.one_op (i := 12) rfl (by kernel_rfl) (fun K hK => ?_)
                  go_simp
                  go_at_call 79
                  refine (HCMP.out _).mono ?_
                  rintro e w7 ⟨rfl, hb⟩
                  have S7 := Lib.hid (show Sl.Sep w _ [L4.boxR w.heap.size 26 #[.string name, .slice (some ad) N c, .int .i64 auto], L4.boxR g1 40 #[.int .i64 kd, .int .i64 n, .string t, .slice ia l.length ic]] from S6.out.keep hb)
                  clear S6
                  clear hb
                  go_wp2_with fail
                  refine hK.out _ _ ⟨Bag.cell_at S7.out 0 rfl 0 rfl, Bag.cell_at S7.out 0 rfl 1 rfl, Bag.cell_at S7.out 0 rfl 2 rfl, Bag.cell_at S7.out 1 rfl 0 rfl, Bag.cell_at S7.out 1 rfl 1 rfl, Bag.cell_at S7.out 1 rfl 2 rfl, Bag.cell_at S7.out 1 rfl 3 rfl, (HK.out _ S7.out.old).1, (HK.out _ S7.out.old).2.1, (HK.out _ S7.out.old).2.2.1, (HK.out _ S7.out.old).2.2.2, (HK2.out _ S7.out.old).1, (HK2.out _ S7.out.old).2.1, (HK2.out _ S7.out.old).2.2.1, (HK2.out _ S7.out.old).2.2.2⟩ (fun hS => ?_)
                  clear hK K
                  try simp only [zp0, zp1, zp2, zp3, zp4]
                  refine tk 13 rfl ?_
                  try simp only [zp0, zp1, zp2, zp3, zp4]
                  refine tk 14 rfl ?_
                  try simp only [zp0, zp1, zp2, zp3, zp4]
                  refine wpAnyH_done (by kernel_rfl) ?_ _
                  have f0 : World.cell? _ ⟨w.heap.size, 0, none⟩ = some (.string name) := Bag.cell_at S7.out 0 rfl 0 rfl
                  have f1 : World.cell? _ ⟨w.heap.size, 1, none⟩ = some (.slice (some ad) N c) := Bag.cell_at S7.out 0 rfl 1 rfl
                  have f2 : World.cell? _ ⟨w.heap.size, 2, none⟩ = some (.int .i64 auto) := Bag.cell_at S7.out 0 rfl 2 rfl
                  have f3 : World.cell? _ ⟨g1, 0, none⟩ = some (.int .i64 kd) := Bag.cell_at S7.out 1 rfl 0 rfl
                  have f4 : World.cell? _ ⟨g1, 1, none⟩ = some (.int .i64 n) := Bag.cell_at S7.out 1 rfl 1 rfl
                  have f5 : World.cell? _ ⟨g1, 2, none⟩ = some (.string t) := Bag.cell_at S7.out 1 rfl 2 rfl
                  have f6 : World.cell? _ ⟨g1, 3, none⟩ = some (.slice ia l.length ic) := Bag.cell_at S7.out 1 rfl 3 rfl
                  have f7 : World.cell? _ (ad.add (k * 4)) = some (.int .i64 kd) := (HK.out _ S7.out.old).1
                  have f8 : World.cell? _ (⟨(ad.add (k * 4)).block, (ad.add (k * 4)).off + 1, none⟩) = some (.int .i64 n) := (HK.out _ S7.out.old).2.1
                  have f9 : World.cell? _ (⟨(ad.add (k * 4)).block, (ad.add (k * 4)).off + 2, none⟩) = some (.string t) := (HK.out _ S7.out.old).2.2.1
                  have f10 : World.cell? _ (⟨(ad.add (k * 4)).block, (ad.add (k * 4)).off + 3, none⟩) = some (.slice ia l.length ic) := (HK.out _ S7.out.old).2.2.2
                  have f11 : World.cell? _ (ad.add (m * 4)) = some (.int .i64 kd2) := (HK2.out _ S7.out.old).1
                  have f12 : World.cell? _ (⟨(ad.add (m * 4)).block, (ad.add (m * 4)).off + 1, none⟩) = some (.int .i64 n2) := (HK2.out _ S7.out.old).2.1
                  have f13 : World.cell? _ (⟨(ad.add (m * 4)).block, (ad.add (m * 4)).off + 2, none⟩) = some (.string t2) := (HK2.out _ S7.out.old).2.2.1
                  have f14 : World.cell? _ (⟨(ad.add (m * 4)).block, (ad.add (m * 4)).off + 3, none⟩) = some (.slice ia2 l2.length ic2) := (HK2.out _ S7.out.old).2.2.2
                  have HNO := Lib.hid (show isI (conI xs) = false from isI_no k hci (by rw [okIx_at HC.out, HKM.out, behind_at HC2.out]; dsimp only; rw [HBK.out, HBR.out, HCV.out]; simpa using hc2))
                  go_wp2_with fail
                  go_ret
                  exact ⟨by rw [HE.out, HNO.out]; rfl, S7.out.old⟩
        · skip
          obtain rfl : k = N := by omega
          have HI := Lib.hid (isI_all (xs := conI xs) (fun i hi => HA.out i (by rw [conI_length] at hi; have := HN.out; omega)))
          go_wp2_with fail
          go_ret
          exact ⟨by rw [HE.out, HI.out]; rfl, S2.out.old⟩
end Go.Proofs.Ytkfejjoehgipmaa.L6
