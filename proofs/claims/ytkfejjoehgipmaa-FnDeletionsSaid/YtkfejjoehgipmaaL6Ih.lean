/-
  The contracts of chapter 6's equalItems and EqualStores of the program, and of the library's slices.EqualFunc over items. Conditions: keys' texts of at most 2^40 bytes, at most 2^20 fields and items. (Written by my program gen_l6m.py.)
-/
import Derived.Test.YtkfejjoehgipmaaL6Ia
import Derived.Test.YtkfejjoehgipmaaL6Sb
import Derived.Test.YtkfejjoehgipmaaL5Ihe
namespace Go.Proofs.Ytkfejjoehgipmaa.L6
set_option maxRecDepth 100000
open L4 (K isK cmpK R inR encU)
open L5 (F isR isN cellsF encR eqR Small)
open Go.ChangeShapes Go.WideShapes Go.ChangeAt Go.RowKit Mem Sl Ex L2 Sv Bag
set_option linter.unusedVariables false
set_option linter.unusedSimpArgs false

set_option maxHeartbeats 4000000 in
theorem equalItems_any (kd n : Int) (t : ByteArray) (ia : Option Addr) (ic : Nat) (l : List F) (kd2 n2 : Int) (t2 : ByteArray) (ia2 : Option Addr) (ic2 : Nat) (l2 : List F) (hl : l.length ≤ 1048576) (hl2 : l2.length ≤ 1048576) (w : World) (hr : Reads w w.heap.size ia (cellsF l)) (hr2 : Reads w w.heap.size ia2 (cellsF l2)) :
    Calls Try.prog 73 #[.agg #[.int .i64 kd, .int .i64 n, .string t, .slice ia l.length ic], .agg #[.int .i64 kd2, .int .i64 n2, .string t2, .slice ia2 l2.length ic2]] w fun e w' => e = .returned (.bool (eqK ⟨kd, n, t⟩ ⟨kd2, n2, t2⟩ && eqR l l2)) ∧ Below w.heap.size w w' := by
  have HER := Lib.hid (fun w' (h : Below w.heap.size w w') => L5.equalRecords_any ia ia2 ic ic2 l l2 (by omega) (by omega) w' ((hr.below h).more h.size) ((hr2.below h).more h.size))
  obtain ⟨N, hN⟩ : ∃ n, n = l.length := ⟨_, rfl⟩
  obtain ⟨N2, hN2⟩ : ∃ n, n = l2.length := ⟨_, rfl⟩
  rw [← hN, ← hN2] at HER ⊢
  clear hN hN2 hr hr2 hl hl2
  obtain ⟨b, hb⟩ : ∃ b, eqK ⟨kd, n, t⟩ ⟨kd2, n2, t2⟩ = b := ⟨_, rfl⟩
  have HE := fun w => key_eq kd n t kd2 n2 t2 w
  rw [hb] at HE ⊢
  clear hb
  obtain ⟨br, hbr⟩ : ∃ b, eqR l l2 = b := ⟨_, rfl⟩
  rw [hbr] at HER ⊢
  clear hbr
  have S1 := Lib.hid (show Sl.Sep w ((w.alloc (.cells #[.int .i64 kd, .int .i64 n, .string t, .slice ia N ic] 40)).alloc (.cells #[.int .i64 kd2, .int .i64 n2, .string t2, .slice ia2 N2 ic2] 40)) [L4.boxR w.heap.size 40 #[.int .i64 kd, .int .i64 n, .string t, .slice ia N ic], L4.boxR (w.heap.size + 1) 40 #[.int .i64 kd2, .int .i64 n2, .string t2, .slice ia2 N2 ic2]] from L4.push_box (L4.push_box (Sl.Sep.start w) 40 #[.int .i64 kd, .int .i64 n, .string t, .slice ia N ic] (w.heap.size) (by simp)) 40 #[.int .i64 kd2, .int .i64 n2, .string t2, .slice ia2 N2 ic2] (w.heap.size + 1) (by simp))
  obtain ⟨wa, hwa⟩ : ∃ u, u = ((w.alloc (.cells #[.int .i64 kd, .int .i64 n, .string t, .slice ia N ic] 40)).alloc (.cells #[.int .i64 kd2, .int .i64 n2, .string t2, .slice ia2 N2 ic2] 40)) := ⟨_, rfl⟩
  rw [← hwa] at S1
  go_enter Try.func73, Try.ntmps73
  go_upto_region 1 with fail
  rw [← hwa]
  clear hwa
  have f0 : World.cell? _ ⟨w.heap.size, 0, none⟩ = some (.int .i64 kd) := Bag.cell_at S1.out 0 rfl 0 rfl
  have f1 : World.cell? _ ⟨w.heap.size, 1, none⟩ = some (.int .i64 n) := Bag.cell_at S1.out 0 rfl 1 rfl
  have f2 : World.cell? _ ⟨w.heap.size, 2, none⟩ = some (.string t) := Bag.cell_at S1.out 0 rfl 2 rfl
  have f3 : World.cell? _ ⟨w.heap.size, 3, none⟩ = some (.slice ia N ic) := Bag.cell_at S1.out 0 rfl 3 rfl
  have f4 : World.cell? _ ⟨w.heap.size + 1, 0, none⟩ = some (.int .i64 kd2) := Bag.cell_at S1.out 1 rfl 0 rfl
  have f5 : World.cell? _ ⟨w.heap.size + 1, 1, none⟩ = some (.int .i64 n2) := Bag.cell_at S1.out 1 rfl 1 rfl
  have f6 : World.cell? _ ⟨w.heap.size + 1, 2, none⟩ = some (.string t2) := Bag.cell_at S1.out 1 rfl 2 rfl
  have f7 : World.cell? _ ⟨w.heap.size + 1, 3, none⟩ = some (.slice ia2 N2 ic2) := Bag.cell_at S1.out 1 rfl 3 rfl
  cases b with
  | false =>
    go_wp2_with fail
    go_ret
    exact ⟨rfl, S1.out.old⟩
  | true =>
    go_wp2_with fail
    go_at_call 21
    refine (HER.out _ S1.out.old).mono ?_
    rintro e w1 ⟨rfl, hb⟩
    clear f0 f1 f2 f3 f4 f5 f6 f7
    have S2 := Lib.hid (show Sl.Sep w _ [L4.boxR w.heap.size 40 #[.int .i64 kd, .int .i64 n, .string t, .slice ia N ic], L4.boxR (w.heap.size + 1) 40 #[.int .i64 kd2, .int .i64 n2, .string t2, .slice ia2 N2 ic2]] from S1.out.keep hb)
    clear S1
    clear hb
    have f0 : World.cell? _ ⟨w.heap.size, 0, none⟩ = some (.int .i64 kd) := Bag.cell_at S2.out 0 rfl 0 rfl
    have f1 : World.cell? _ ⟨w.heap.size, 1, none⟩ = some (.int .i64 n) := Bag.cell_at S2.out 0 rfl 1 rfl
    have f2 : World.cell? _ ⟨w.heap.size, 2, none⟩ = some (.string t) := Bag.cell_at S2.out 0 rfl 2 rfl
    have f3 : World.cell? _ ⟨w.heap.size, 3, none⟩ = some (.slice ia N ic) := Bag.cell_at S2.out 0 rfl 3 rfl
    have f4 : World.cell? _ ⟨w.heap.size + 1, 0, none⟩ = some (.int .i64 kd2) := Bag.cell_at S2.out 1 rfl 0 rfl
    have f5 : World.cell? _ ⟨w.heap.size + 1, 1, none⟩ = some (.int .i64 n2) := Bag.cell_at S2.out 1 rfl 1 rfl
    have f6 : World.cell? _ ⟨w.heap.size + 1, 2, none⟩ = some (.string t2) := Bag.cell_at S2.out 1 rfl 2 rfl
    have f7 : World.cell? _ ⟨w.heap.size + 1, 3, none⟩ = some (.slice ia2 N2 ic2) := Bag.cell_at S2.out 1 rfl 3 rfl
    go_wp2_with fail
    go_ret
    exact ⟨rfl, S2.out.old⟩
set_option maxHeartbeats 8000000 in
theorem equalFuncI_any (a a2 : Option Addr) (c c2 : Nat) (xs xs2 : List LI) (hl : xs.length ≤ 1048576) (hl2 : xs2.length ≤ 1048576) (hf : ∀ x ∈ conI xs, FitI x) (hf2 : ∀ x ∈ conI xs2, FitI x) (w : World)
    (hr : Reads w w.heap.size a (cellsI xs)) (hr2 : Reads w w.heap.size a2 (cellsI xs2)) (hx : RowsRd w w.heap.size (rowsI xs)) (hx2 : RowsRd w w.heap.size (rowsI xs2)) :
    Calls Try.prog 72 #[.slice a xs.length c, .slice a2 xs2.length c2, .func (.func 73) #[] #[]] w fun e w' => e = .returned (.bool (eqI (conI xs) (conI xs2))) ∧ Below w.heap.size w w' := by
  have HR := Lib.hid (fun w' (h : Below w.heap.size w w') => hr.below h)
  have HR2 := Lib.hid (fun w' (h : Below w.heap.size w w') => hr2.below h)
  have HX := Lib.hid (fun w' (h : Below w.heap.size w w') => (hx.below h).more h.size)
  have HX2 := Lib.hid (fun w' (h : Below w.heap.size w w') => (hx2.below h).more h.size)
  have HF := Lib.hid hf
  have HF2 := Lib.hid hf2
  obtain ⟨N, hN⟩ : ∃ n, n = xs.length := ⟨_, rfl⟩
  obtain ⟨N2, hN2⟩ : ∃ n, n = xs2.length := ⟨_, rfl⟩
  rw [← hN] at hl ⊢
  rw [← hN2] at hl2 ⊢
  have hl' : (N : Int) ≤ 1048576 := by omega
  have hl2' : (N2 : Int) ≤ 1048576 := by omega
  have HN := Lib.hid hN
  have HN2 := Lib.hid hN2
  obtain ⟨be, hbe⟩ : ∃ b, eqI (conI xs) (conI xs2) = b := ⟨_, rfl⟩
  rw [hbe]
  have HB := Lib.hid hbe
  clear hN hN2 hr hr2 hx hx2 hf hf2 hbe
  have S1 := Lib.hid (show Sl.Sep w w [] from Sl.Sep.start w)
  by_cases hN : N = N2
  · subst hN
    go_enter Try.func72, Try.ntmps72
    go_wp2_with fail
    go_loopw [17] (fun i wr => ∃ k : Nat, k ≤ N ∧ i = .int .i64 k ∧ Hid ((∀ j (h1 : j < (conI xs).length) (h2 : j < (conI xs2).length), j < k → (eqK (conI xs)[j].k (conI xs2)[j].k && eqR (conI xs)[j].l (conI xs2)[j].l) = true) ∧ Sl.Sep w wr [])) (fun i _ => N - (intOf i).toNat)
    case atStart => exact ⟨0, Nat.zero_le _, rfl, And.intro (fun j h1 h2 h => absurd h (by omega)) S1.out⟩
    case round =>
      obtain ⟨k, hk, rfl, hrel⟩ := hrel
      have HA := Lib.hid hrel.out.1
      have S2 := Lib.hid hrel.out.2
      clear hrel S1
      by_cases hlt : (k : Int) < (N : Int)
      · skip
        have hkl : k < xs.length := by have := HN.out; omega
        have hkl2 : k < xs2.length := by have := HN2.out; omega
        obtain ⟨ad, x, rfl, hx⟩ := readsI_some (HR.out _ S2.out.old) k hkl
        obtain ⟨⟨kd, n, t⟩, ia, ic, l⟩ := x
        have HK := Lib.hid (fun w' (h : Below w.heap.size w w') => readsI_at (HR.out _ h) k _ hx)
        try dsimp only at HK
        have HFI := Lib.hid (fit_at HF.out hx)
        try dsimp only [LI.con] at HFI
        obtain ⟨ad2, x, rfl, hx2⟩ := readsI_some (HR2.out _ S2.out.old) k hkl2
        obtain ⟨⟨kd2, n2, t2⟩, ia2, ic2, l2⟩ := x
        have HK2 := Lib.hid (fun w' (h : Below w.heap.size w w') => readsI_at (HR2.out _ h) k _ hx2)
        try dsimp only at HK2
        have HFI2 := Lib.hid (fit_at HF2.out hx2)
        try dsimp only [LI.con] at HFI2
        have HC := Lib.hid (show (conI xs)[k]? = some (⟨⟨kd, n, t⟩, l⟩ : It) from con_of hx)
        have HC2 := Lib.hid (show (conI xs2)[k]? = some (⟨⟨kd2, n2, t2⟩, l2⟩ : It) from con_of hx2)
        have HEQ := fun w' (h : Below w.heap.size w w') => equalItems_any kd n t ia ic l kd2 n2 t2 ia2 ic2 l2 HFI.out.len HFI2.out.len w' (((HX.out _ h).at_ (rowsI_mem hx)).reads) (((HX2.out _ h).at_ (rowsI_mem hx2)).reads)
        obtain ⟨b, hb⟩ : ∃ b, (eqK ⟨kd, n, t⟩ ⟨kd2, n2, t2⟩ && eqR l l2) = b := ⟨_, rfl⟩
        rw [hb] at HEQ
        replace HEQ := Lib.hid HEQ
        have HBK := Lib.hid hb
        clear hb hx hx2
        have f0 : World.cell? _ (ad.add (k * 4)) = some (.int .i64 kd) := (HK.out _ S2.out.old).1
        have f1 : World.cell? _ (⟨(ad.add (k * 4)).block, (ad.add (k * 4)).off + 1, none⟩) = some (.int .i64 n) := (HK.out _ S2.out.old).2.1
        have f2 : World.cell? _ (⟨(ad.add (k * 4)).block, (ad.add (k * 4)).off + 2, none⟩) = some (.string t) := (HK.out _ S2.out.old).2.2.1
        have f3 : World.cell? _ (⟨(ad.add (k * 4)).block, (ad.add (k * 4)).off + 3, none⟩) = some (.slice ia l.length ic) := (HK.out _ S2.out.old).2.2.2
        have f4 : World.cell? _ (ad2.add (k * 4)) = some (.int .i64 kd2) := (HK2.out _ S2.out.old).1
        have f5 : World.cell? _ (⟨(ad2.add (k * 4)).block, (ad2.add (k * 4)).off + 1, none⟩) = some (.int .i64 n2) := (HK2.out _ S2.out.old).2.1
        have f6 : World.cell? _ (⟨(ad2.add (k * 4)).block, (ad2.add (k * 4)).off + 2, none⟩) = some (.string t2) := (HK2.out _ S2.out.old).2.2.1
        have f7 : World.cell? _ (⟨(ad2.add (k * 4)).block, (ad2.add (k * 4)).off + 3, none⟩) = some (.slice ia2 l2.length ic2) := (HK2.out _ S2.out.old).2.2.2
        go_upto_region 6 with fail
        clear f0 f1 f2 f3 f4 f5 f6 f7
        have S3 := Lib.hid (show Sl.Sep w _ [L4.boxR wr.heap.size 40 #[.int .i64 kd, .int .i64 n, .string t, .slice ia l.length ic]] from L4.push_box S2.out 40 #[.int .i64 kd, .int .i64 n, .string t, .slice ia l.length ic] wr.heap.size rfl)
        clear S2
        obtain ⟨g1, hg⟩ : ∃ g', g' = wr.heap.size := ⟨_, rfl⟩
        rw [← hg] at S3 ⊢
        clear hg
        generalize wr.alloc (.cells #[.int .i64 kd, .int .i64 n, .string t, .slice ia l.length ic] 40) = w1 at S3 ⊢
        have f0 : World.cell? _ ⟨g1, 0, none⟩ = some (.int .i64 kd) := Bag.cell_at S3.out 0 rfl 0 rfl
        have f1 : World.cell? _ ⟨g1, 1, none⟩ = some (.int .i64 n) := Bag.cell_at S3.out 0 rfl 1 rfl
        have f2 : World.cell? _ ⟨g1, 2, none⟩ = some (.string t) := Bag.cell_at S3.out 0 rfl 2 rfl
        have f3 : World.cell? _ ⟨g1, 3, none⟩ = some (.slice ia l.length ic) := Bag.cell_at S3.out 0 rfl 3 rfl
        have f4 : World.cell? _ (ad.add (k * 4)) = some (.int .i64 kd) := (HK.out _ S3.out.old).1
        have f5 : World.cell? _ (⟨(ad.add (k * 4)).block, (ad.add (k * 4)).off + 1, none⟩) = some (.int .i64 n) := (HK.out _ S3.out.old).2.1
        have f6 : World.cell? _ (⟨(ad.add (k * 4)).block, (ad.add (k * 4)).off + 2, none⟩) = some (.string t) := (HK.out _ S3.out.old).2.2.1
        have f7 : World.cell? _ (⟨(ad.add (k * 4)).block, (ad.add (k * 4)).off + 3, none⟩) = some (.slice ia l.length ic) := (HK.out _ S3.out.old).2.2.2
        have f8 : World.cell? _ (ad2.add (k * 4)) = some (.int .i64 kd2) := (HK2.out _ S3.out.old).1
        have f9 : World.cell? _ (⟨(ad2.add (k * 4)).block, (ad2.add (k * 4)).off + 1, none⟩) = some (.int .i64 n2) := (HK2.out _ S3.out.old).2.1
        have f10 : World.cell? _ (⟨(ad2.add (k * 4)).block, (ad2.add (k * 4)).off + 2, none⟩) = some (.string t2) := (HK2.out _ S3.out.old).2.2.1
        have f11 : World.cell? _ (⟨(ad2.add (k * 4)).block, (ad2.add (k * 4)).off + 3, none⟩) = some (.slice ia2 l2.length ic2) := (HK2.out _ S3.out.old).2.2.2
        go_upto_region 7 with fail
        clear f0 f1 f2 f3 f4 f5 f6 f7 f8 f9 f10 f11
        have S4 := Lib.hid (show Sl.Sep w _ [L4.boxR g1 40 #[.int .i64 kd, .int .i64 n, .string t, .slice ia l.length ic], L4.boxR w1.heap.size 40 #[.int .i64 kd2, .int .i64 n2, .string t2, .slice ia2 l2.length ic2]] from L4.push_box S3.out 40 #[.int .i64 kd2, .int .i64 n2, .string t2, .slice ia2 l2.length ic2] w1.heap.size rfl)
        clear S3
        obtain ⟨g2, hg⟩ : ∃ g', g' = w1.heap.size := ⟨_, rfl⟩
        rw [← hg] at S4 ⊢
        clear hg
        generalize w1.alloc (.cells #[.int .i64 kd2, .int .i64 n2, .string t2, .slice ia2 l2.length ic2] 40) = w2 at S4 ⊢
        have f0 : World.cell? _ ⟨g1, 0, none⟩ = some (.int .i64 kd) := Bag.cell_at S4.out 0 rfl 0 rfl
        have f1 : World.cell? _ ⟨g1, 1, none⟩ = some (.int .i64 n) := Bag.cell_at S4.out 0 rfl 1 rfl
        have f2 : World.cell? _ ⟨g1, 2, none⟩ = some (.string t) := Bag.cell_at S4.out 0 rfl 2 rfl
        have f3 : World.cell? _ ⟨g1, 3, none⟩ = some (.slice ia l.length ic) := Bag.cell_at S4.out 0 rfl 3 rfl
        have f4 : World.cell? _ ⟨g2, 0, none⟩ = some (.int .i64 kd2) := Bag.cell_at S4.out 1 rfl 0 rfl
        have f5 : World.cell? _ ⟨g2, 1, none⟩ = some (.int .i64 n2) := Bag.cell_at S4.out 1 rfl 1 rfl
        have f6 : World.cell? _ ⟨g2, 2, none⟩ = some (.string t2) := Bag.cell_at S4.out 1 rfl 2 rfl
        have f7 : World.cell? _ ⟨g2, 3, none⟩ = some (.slice ia2 l2.length ic2) := Bag.cell_at S4.out 1 rfl 3 rfl
        have f8 : World.cell? _ (ad.add (k * 4)) = some (.int .i64 kd) := (HK.out _ S4.out.old).1
        have f9 : World.cell? _ (⟨(ad.add (k * 4)).block, (ad.add (k * 4)).off + 1, none⟩) = some (.int .i64 n) := (HK.out _ S4.out.old).2.1
        have f10 : World.cell? _ (⟨(ad.add (k * 4)).block, (ad.add (k * 4)).off + 2, none⟩) = some (.string t) := (HK.out _ S4.out.old).2.2.1
        have f11 : World.cell? _ (⟨(ad.add (k * 4)).block, (ad.add (k * 4)).off + 3, none⟩) = some (.slice ia l.length ic) := (HK.out _ S4.out.old).2.2.2
        have f12 : World.cell? _ (ad2.add (k * 4)) = some (.int .i64 kd2) := (HK2.out _ S4.out.old).1
        have f13 : World.cell? _ (⟨(ad2.add (k * 4)).block, (ad2.add (k * 4)).off + 1, none⟩) = some (.int .i64 n2) := (HK2.out _ S4.out.old).2.1
        have f14 : World.cell? _ (⟨(ad2.add (k * 4)).block, (ad2.add (k * 4)).off + 2, none⟩) = some (.string t2) := (HK2.out _ S4.out.old).2.2.1
        have f15 : World.cell? _ (⟨(ad2.add (k * 4)).block, (ad2.add (k * 4)).off + 3, none⟩) = some (.slice ia2 l2.length ic2) := (HK2.out _ S4.out.old).2.2.2
        go_wp2_with fail
        go_at_call 73
        refine (HEQ.out _ S4.out.old).mono ?_
        rintro e w3 ⟨rfl, hb⟩
        clear f0 f1 f2 f3 f4 f5 f6 f7 f8 f9 f10 f11 f12 f13 f14 f15
        have S5 := Lib.hid (show Sl.Sep w _ [L4.boxR g1 40 #[.int .i64 kd, .int .i64 n, .string t, .slice ia l.length ic], L4.boxR g2 40 #[.int .i64 kd2, .int .i64 n2, .string t2, .slice ia2 l2.length ic2]] from S4.out.keep hb)
        clear S4
        clear hb
        have f0 : World.cell? _ ⟨g1, 0, none⟩ = some (.int .i64 kd) := Bag.cell_at S5.out 0 rfl 0 rfl
        have f1 : World.cell? _ ⟨g1, 1, none⟩ = some (.int .i64 n) := Bag.cell_at S5.out 0 rfl 1 rfl
        have f2 : World.cell? _ ⟨g1, 2, none⟩ = some (.string t) := Bag.cell_at S5.out 0 rfl 2 rfl
        have f3 : World.cell? _ ⟨g1, 3, none⟩ = some (.slice ia l.length ic) := Bag.cell_at S5.out 0 rfl 3 rfl
        have f4 : World.cell? _ ⟨g2, 0, none⟩ = some (.int .i64 kd2) := Bag.cell_at S5.out 1 rfl 0 rfl
        have f5 : World.cell? _ ⟨g2, 1, none⟩ = some (.int .i64 n2) := Bag.cell_at S5.out 1 rfl 1 rfl
        have f6 : World.cell? _ ⟨g2, 2, none⟩ = some (.string t2) := Bag.cell_at S5.out 1 rfl 2 rfl
        have f7 : World.cell? _ ⟨g2, 3, none⟩ = some (.slice ia2 l2.length ic2) := Bag.cell_at S5.out 1 rfl 3 rfl
        have f8 : World.cell? _ (ad.add (k * 4)) = some (.int .i64 kd) := (HK.out _ S5.out.old).1
        have f9 : World.cell? _ (⟨(ad.add (k * 4)).block, (ad.add (k * 4)).off + 1, none⟩) = some (.int .i64 n) := (HK.out _ S5.out.old).2.1
        have f10 : World.cell? _ (⟨(ad.add (k * 4)).block, (ad.add (k * 4)).off + 2, none⟩) = some (.string t) := (HK.out _ S5.out.old).2.2.1
        have f11 : World.cell? _ (⟨(ad.add (k * 4)).block, (ad.add (k * 4)).off + 3, none⟩) = some (.slice ia l.length ic) := (HK.out _ S5.out.old).2.2.2
        have f12 : World.cell? _ (ad2.add (k * 4)) = some (.int .i64 kd2) := (HK2.out _ S5.out.old).1
        have f13 : World.cell? _ (⟨(ad2.add (k * 4)).block, (ad2.add (k * 4)).off + 1, none⟩) = some (.int .i64 n2) := (HK2.out _ S5.out.old).2.1
        have f14 : World.cell? _ (⟨(ad2.add (k * 4)).block, (ad2.add (k * 4)).off + 2, none⟩) = some (.string t2) := (HK2.out _ S5.out.old).2.2.1
        have f15 : World.cell? _ (⟨(ad2.add (k * 4)).block, (ad2.add (k * 4)).off + 3, none⟩) = some (.slice ia2 l2.length ic2) := (HK2.out _ S5.out.old).2.2.2
        cases b with
        | false =>
          have HNO := Lib.hid (show eqI (conI xs) (conI xs2) = false from eqI_no k (List.getElem?_eq_some_iff.1 HC.out).1 (List.getElem?_eq_some_iff.1 HC2.out).1 (by rw [(List.getElem?_eq_some_iff.1 HC.out).2, (List.getElem?_eq_some_iff.1 HC2.out).2]; dsimp only; exact HBK.out))
          go_wp2_with fail
          go_ret
          exact ⟨by rw [← HB.out, HNO.out]; rfl, S5.out.old⟩
        | true =>
          clear f0 f1 f2 f3 f4 f5 f6 f7 f8 f9 f10 f11 f12 f13 f14 f15
          have S6 := Lib.hid (show Sl.Sep w _ [] from Bag.take S5.out [] (by rfl) (by decide))
          clear S5
          go_wp2_with fail
          go_roundw
          case rel => exact ⟨k + 1, by omega, by go_num, And.intro (fun j h1 h2 h => by
            by_cases e : j < k
            · exact HA.out j h1 h2 e
            · obtain rfl : j = k := by omega
              rw [(List.getElem?_eq_some_iff.1 HC.out).2, (List.getElem?_eq_some_iff.1 HC2.out).2]; exact HBK.out) S6.out⟩
          case measure => simp [intOf]; omega
      · skip
        have HI := Lib.hid (eqI_all (xs := conI xs) (ys := conI xs2) (by rw [conI_length, conI_length, ← HN.out, ← HN2.out]) (fun j h1 h2 => HA.out j h1 h2 (by rw [conI_length] at h1; have := HN.out; omega)))
        go_wp2_with fail
        go_ret
        exact ⟨by rw [← HB.out, HI.out]; rfl, S2.out.old⟩
  · have hne : ((N : Int) == (N2 : Int)) = false := by simp; omega
    have hne2 : ¬ (N : Int) = (N2 : Int) := by omega
    have HI := Lib.hid (eqI_len (xs := conI xs) (ys := conI xs2) (by rw [conI_length, conI_length, ← HN.out, ← HN2.out]; exact hN))
    go_enter Try.func72, Try.ntmps72
    go_wp2_with fail
    go_ret
    exact ⟨by rw [← HB.out, HI.out]; rfl, S1.out.old⟩
set_option maxHeartbeats 8000000 in
theorem equalStores_any (y y2 : LS) (hf : FitS y.con) (hf2 : FitS y2.con) (w : World) (hr : RowsRd w w.heap.size y.rows) (hr2 : RowsRd w w.heap.size y2.rows) :
    Calls Try.prog 20 #[y.v, y2.v] w fun e w' => e = .returned (.bool (eqS y.con y2.con)) ∧ Below w.heap.size w w' := by
  have HEF := Lib.hid (fun w' (h : Below w.heap.size w w') => equalFuncI_any y.a y2.a y.c y2.c y.xs y2.xs (by have h1 := hf.len; simpa [LS.con] using h1) (by have h1 := hf2.len; simpa [LS.con] using h1) hf.items hf2.items w' (((LS.outer hr).below h).more h.size) (((LS.outer hr2).below h).more h.size) (((LS.inner hr).below h).more h.size) (((LS.inner hr2).below h).more h.size))
  obtain ⟨name, a, c, xs, auto⟩ := y
  have HR := Lib.hid (fun w' (h : Below w.heap.size w w') => LS.outer (hr.below h))
  have HX := Lib.hid (fun w' (h : Below w.heap.size w w') => (LS.inner (hr.below h)).more h.size)
  have HF := Lib.hid hf.items
  have HNM := Lib.hid hf.name
  have hl := hf.len
  simp only [LS.con, conI_length] at hl
  dsimp only [LS.con] at HR HX HF HNM
  try unfold LS.v LS.cells LS.con
  try dsimp only
  obtain ⟨N, hN⟩ : ∃ n, n = xs.length := ⟨_, rfl⟩
  rw [← hN] at hl ⊢
  have hl' : (N : Int) ≤ 1048576 := by omega
  have HN := Lib.hid hN
  clear hN hr hf
  obtain ⟨name2, a2, c2, xs2, auto2⟩ := y2
  have HR2 := Lib.hid (fun w' (h : Below w.heap.size w w') => LS.outer (hr2.below h))
  have HX2 := Lib.hid (fun w' (h : Below w.heap.size w w') => (LS.inner (hr2.below h)).more h.size)
  have HF2 := Lib.hid hf2.items
  have HNM2 := Lib.hid hf2.name
  have hl2 := hf2.len
  simp only [LS.con, conI_length] at hl2
  dsimp only [LS.con] at HR2 HX2 HF2 HNM2
  try unfold LS.v LS.cells LS.con
  try dsimp only
  obtain ⟨N2, hN2⟩ : ∃ n, n = xs2.length := ⟨_, rfl⟩
  rw [← hN2] at hl2 ⊢
  have hl2' : (N2 : Int) ≤ 1048576 := by omega
  have HN2 := Lib.hid hN2
  clear hN2 hr2 hf2
  dsimp only at HEF
  rw [← HN.out, ← HN2.out] at HEF
  obtain ⟨bi, hbi⟩ : ∃ b, eqI (conI xs) (conI xs2) = b := ⟨_, rfl⟩
  rw [hbi] at HEF
  obtain ⟨be, hbe⟩ : ∃ b, eqS ⟨name, conI xs, auto⟩ ⟨name2, conI xs2, auto2⟩ = b := ⟨_, rfl⟩
  rw [hbe]
  have HE := Lib.hid (show be = ((name.toList == name2.toList) && ((auto == auto2) && bi)) from by rw [← hbe, ← hbi]; unfold eqS; rw [ByteArray.toList_eq, ByteArray.toList_eq])
  clear hbe hbi
  have S1 := Lib.hid (show Sl.Sep w ((w.alloc (.cells #[.string name, .slice a N c, .int .i64 auto] 26)).alloc (.cells #[.string name2, .slice a2 N2 c2, .int .i64 auto2] 26)) [L4.boxR w.heap.size 26 #[.string name, .slice a N c, .int .i64 auto], L4.boxR (w.heap.size + 1) 26 #[.string name2, .slice a2 N2 c2, .int .i64 auto2]] from L4.push_box (L4.push_box (Sl.Sep.start w) 26 #[.string name, .slice a N c, .int .i64 auto] (w.heap.size) (by simp)) 26 #[.string name2, .slice a2 N2 c2, .int .i64 auto2] (w.heap.size + 1) (by simp))
  obtain ⟨wa, hwa⟩ : ∃ u, u = ((w.alloc (.cells #[.string name, .slice a N c, .int .i64 auto] 26)).alloc (.cells #[.string name2, .slice a2 N2 c2, .int .i64 auto2] 26)) := ⟨_, rfl⟩
  rw [← hwa] at S1
  go_enter Try.func20, Try.ntmps20
  go_upto_region 1 with fail
  rw [← hwa]
  clear hwa
  have f0 : World.cell? _ ⟨w.heap.size, 0, none⟩ = some (.string name) := Bag.cell_at S1.out 0 rfl 0 rfl
  have f1 : World.cell? _ ⟨w.heap.size, 1, none⟩ = some (.slice a N c) := Bag.cell_at S1.out 0 rfl 1 rfl
  have f2 : World.cell? _ ⟨w.heap.size, 2, none⟩ = some (.int .i64 auto) := Bag.cell_at S1.out 0 rfl 2 rfl
  have f3 : World.cell? _ ⟨w.heap.size + 1, 0, none⟩ = some (.string name2) := Bag.cell_at S1.out 1 rfl 0 rfl
  have f4 : World.cell? _ ⟨w.heap.size + 1, 1, none⟩ = some (.slice a2 N2 c2) := Bag.cell_at S1.out 1 rfl 1 rfl
  have f5 : World.cell? _ ⟨w.heap.size + 1, 2, none⟩ = some (.int .i64 auto2) := Bag.cell_at S1.out 1 rfl 2 rfl
  cases hn : name.toList == name2.toList with
  | false =>
    have HB := Lib.hid (show be = false from by rw [HE.out, hn]; rfl)
    go_wp2_with fail
    go_ret
    exact ⟨by rw [HB.out]; rfl, S1.out.old⟩
  | true =>
    cases hu : auto == auto2 with
    | false =>
      have HB := Lib.hid (show be = false from by rw [HE.out, hn, hu]; rfl)
      go_wp2_with fail
      go_ret
      exact ⟨by rw [HB.out]; rfl, S1.out.old⟩
    | true =>
      have HB := Lib.hid (show be = bi from by rw [HE.out, hn, hu]; rfl)
      go_wp2_with fail
      go_at_call 72
      refine (HEF.out _ S1.out.old).mono ?_
      rintro e w1 ⟨rfl, hb⟩
      clear f0 f1 f2 f3 f4 f5
      have S2 := Lib.hid (show Sl.Sep w _ [L4.boxR w.heap.size 26 #[.string name, .slice a N c, .int .i64 auto], L4.boxR (w.heap.size + 1) 26 #[.string name2, .slice a2 N2 c2, .int .i64 auto2]] from S1.out.keep hb)
      clear S1
      clear hb
      have f0 : World.cell? _ ⟨w.heap.size, 0, none⟩ = some (.string name) := Bag.cell_at S2.out 0 rfl 0 rfl
      have f1 : World.cell? _ ⟨w.heap.size, 1, none⟩ = some (.slice a N c) := Bag.cell_at S2.out 0 rfl 1 rfl
      have f2 : World.cell? _ ⟨w.heap.size, 2, none⟩ = some (.int .i64 auto) := Bag.cell_at S2.out 0 rfl 2 rfl
      have f3 : World.cell? _ ⟨w.heap.size + 1, 0, none⟩ = some (.string name2) := Bag.cell_at S2.out 1 rfl 0 rfl
      have f4 : World.cell? _ ⟨w.heap.size + 1, 1, none⟩ = some (.slice a2 N2 c2) := Bag.cell_at S2.out 1 rfl 1 rfl
      have f5 : World.cell? _ ⟨w.heap.size + 1, 2, none⟩ = some (.int .i64 auto2) := Bag.cell_at S2.out 1 rfl 2 rfl
      go_wp2_with fail
      go_ret
      exact ⟨by rw [HB.out]; rfl, S2.out.old⟩
end Go.Proofs.Ytkfejjoehgipmaa.L6
