/-
  The contracts of chapter 6's placeOf and autoAfter of the program, and of the library's slices.Insert of one item into a slice without room. Conditions: keys' texts of at most 2^40 bytes, at most 2^20 fields and items. (Written by my program gen_l6j.py.)
-/
import Derived.Test.YtkfejjoehgipmaaTk
import Derived.Test.YtkfejjoehgipmaaL6Ic
import Derived.Test.YtkfejjoehgipmaaL6Se
import Derived.Test.YtkfejjoehgipmaaRun
namespace Go.Proofs.Ytkfejjoehgipmaa.L6
set_option maxRecDepth 100000
open L4 (K isK cmpK R inR encU)
open L5 (F isR isN cellsF encR eqR Small)
open Go.ChangeShapes Go.WideShapes Go.ChangeAt Go.RowKit Mem Sl Ex L2 Sv Bag
set_option linter.unusedVariables false
set_option linter.unusedSimpArgs false

def plcI (xs : List It) (k : K) : Nat := (xs.findIdx? fun x => decide (0 < cmpK x.k k)).getD xs.length
theorem plcI_at {xs : List It} {k : K} (i : Nat) (hi : i ≤ xs.length) (hl : ∀ j (hj : j < xs.length), j < i → cmpK xs[j].k k ≤ 0) (hn : ∀ hi : i < xs.length, 0 < cmpK xs[i].k k) : plcI xs k = i := by
  unfold plcI
  by_cases h : i < xs.length
  · rw [show (xs.findIdx? fun x => decide (0 < cmpK x.k k)) = some i by
      rw [List.findIdx?_eq_some_iff_getElem]
      exact ⟨h, by simpa using hn h, fun j hj => by simpa using hl j (by omega) hj⟩]
    rfl
  · obtain rfl : i = xs.length := by omega
    rw [show (xs.findIdx? fun x => decide (0 < cmpK x.k k)) = none by
      rw [List.findIdx?_eq_none_iff]
      intro x hx
      obtain ⟨j, hj, rfl⟩ := List.getElem_of_mem hx
      simpa using hl j hj hj]
    rfl
theorem plcI_le (xs : List It) (k : K) : plcI xs k ≤ xs.length := by
  unfold plcI
  cases h : xs.findIdx? fun x => decide (0 < cmpK x.k k) with
  | none => exact Nat.le_refl _
  | some i =>
    rw [List.findIdx?_eq_some_iff_getElem] at h
    exact Nat.le_of_lt h.1
theorem findIdx_congr {α : Type} {p q : α → Bool} : ∀ (xs : List α), (∀ x ∈ xs, p x = q x) → xs.findIdx? p = xs.findIdx? q
  | [], _ => rfl
  | x :: xs, h => by
    rw [List.findIdx?_cons, List.findIdx?_cons, h x (List.mem_cons_self ..), findIdx_congr xs (fun y hy => h y (List.mem_cons_of_mem _ hy))]
theorem plcI_posI {xs : List It} {k : K} (h : ∀ x ∈ xs, cmpK x.k k ≠ 0) : plcI xs k = posI xs k := by
  unfold plcI posI
  rw [findIdx_congr (q := fun x => !decide (cmpK x.k k < 0)) xs (fun x hx => by
    have := h x hx
    by_cases h1 : cmpK x.k k < 0
    · rw [decide_eq_true h1, decide_eq_false (by omega)]; rfl
    · rw [decide_eq_false h1, decide_eq_true (show 0 < cmpK x.k k by omega)]; rfl)]

set_option maxHeartbeats 4000000 in
theorem placeOf_any (y : LS) (k0 : K) (hf : FitS y.con) (hkt : k0.text.size ≤ 1099511627776) (w : World) (hr : RowsRd w w.heap.size y.rows) :
    Calls Try.prog 62 #[y.v, k0.v] w fun e w' => e = .returned (.int .i64 (plcI y.con.items k0)) ∧ Below w.heap.size w w' := by
  obtain ⟨name, a, c, xs, auto⟩ := y
  have HR := Lib.hid (fun w' (h : Below w.heap.size w w') => LS.outer (hr.below h))
  have HX := Lib.hid (fun w' (h : Below w.heap.size w w') => (LS.inner (hr.below h)).more h.size)
  have HF := Lib.hid hf.items
  have HNM := Lib.hid hf.name
  have hl := hf.len
  simp only [LS.con, conI_length] at hl
  dsimp only [LS.con] at HR HX HF HNM
  try unfold LS.v LS.cells LS.con
  try dsimp only
  obtain ⟨N, hN⟩ : ∃ n, n = xs.length := ⟨_, rfl⟩
  rw [← hN] at hl ⊢
  have hl' : (N : Int) ≤ 1048576 := by omega
  have HN := Lib.hid hN
  clear hN hr hf
  obtain ⟨kd2, n2, t2⟩ := k0
  unfold L4.K.v
  try dsimp only at hkt ⊢
  have S1 := Lib.hid (show Sl.Sep w ((w.alloc (.cells #[.string name, .slice a N c, .int .i64 auto] 26)).alloc (.cells #[.int .i64 kd2, .int .i64 n2, .string t2] 28)) [L4.boxR w.heap.size 26 #[.string name, .slice a N c, .int .i64 auto], L4.boxR (w.heap.size + 1) 28 #[.int .i64 kd2, .int .i64 n2, .string t2]] from L4.push_box (L4.push_box (Sl.Sep.start w) 26 #[.string name, .slice a N c, .int .i64 auto] (w.heap.size) (by simp)) 28 #[.int .i64 kd2, .int .i64 n2, .string t2] (w.heap.size + 1) (by simp))
  obtain ⟨wa, hwa⟩ : ∃ u, u = ((w.alloc (.cells #[.string name, .slice a N c, .int .i64 auto] 26)).alloc (.cells #[.int .i64 kd2, .int .i64 n2, .string t2] 28)) := ⟨_, rfl⟩
  rw [← hwa] at S1
  go_enter Try.func62, Try.ntmps62
  go_upto_region 1 with fail
  rw [← hwa]
  clear hwa
  have f0 : World.cell? _ ⟨w.heap.size, 0, none⟩ = some (.string name) := Bag.cell_at S1.out 0 rfl 0 rfl
  have f1 : World.cell? _ ⟨w.heap.size, 1, none⟩ = some (.slice a N c) := Bag.cell_at S1.out 0 rfl 1 rfl
  have f2 : World.cell? _ ⟨w.heap.size, 2, none⟩ = some (.int .i64 auto) := Bag.cell_at S1.out 0 rfl 2 rfl
  have f3 : World.cell? _ ⟨w.heap.size + 1, 0, none⟩ = some (.int .i64 kd2) := Bag.cell_at S1.out 1 rfl 0 rfl
  have f4 : World.cell? _ ⟨w.heap.size + 1, 1, none⟩ = some (.int .i64 n2) := Bag.cell_at S1.out 1 rfl 1 rfl
  have f5 : World.cell? _ ⟨w.heap.size + 1, 2, none⟩ = some (.string t2) := Bag.cell_at S1.out 1 rfl 2 rfl
  go_wp2_with fail
  clear f0 f1 f2 f3 f4 f5
  go_loopw [10] (fun i wr => ∃ k : Nat, k ≤ N ∧ i = .int .i64 k ∧ Hid ((∀ j (hj : j < (conI xs).length), j < k → cmpK (conI xs)[j].k ⟨kd2, n2, t2⟩ ≤ 0) ∧ Sl.Sep w wr [L4.boxR w.heap.size 26 #[.string name, .slice a N c, .int .i64 auto], L4.boxR (w.heap.size + 1) 28 #[.int .i64 kd2, .int .i64 n2, .string t2]])) (fun i _ => N - (intOf i).toNat)
  case atStart => exact ⟨0, Nat.zero_le _, rfl, And.intro (fun j hj h => absurd h (by omega)) S1.out⟩
  case round =>
    obtain ⟨k, hk, rfl, hrel⟩ := hrel
    have HA := Lib.hid hrel.out.1
    have S2 := Lib.hid hrel.out.2
    clear hrel S1
    by_cases hlt : (k : Int) < (N : Int)
    · skip
      have hkl : k < xs.length := by have := HN.out; omega
      obtain ⟨ad, x, rfl, hx⟩ := readsI_some (HR.out _ S2.out.old) k hkl
      obtain ⟨⟨kd, n, t⟩, ia, ic, l⟩ := x
      have HK := Lib.hid (fun w' (h : Below w.heap.size w w') => readsI_at (HR.out _ h) k _ hx)
      try dsimp only at HK
      have HFI := Lib.hid (fit_at HF.out hx)
      try dsimp only [LI.con] at HFI
      have HC := Lib.hid (show (conI xs)[k]? = some (⟨⟨kd, n, t⟩, l⟩ : It) from con_of hx)
      clear hx
      obtain ⟨cv, hcv⟩ : ∃ b, cmpK ⟨kd, n, t⟩ ⟨kd2, n2, t2⟩ = b := ⟨_, rfl⟩
      have HCMP := fun w => L4.implCompareKeys_any ⟨kd, n, t⟩ ⟨kd2, n2, t2⟩ (by have : t.size ≤ 1099511627776 := HFI.out.text; show t.size ≤ _; omega) (by show t2.size ≤ _; omega) w
      rw [hcv] at HCMP
      replace HCMP := Lib.hid HCMP
      have HCV := Lib.hid hcv
      clear hcv
      have f0 : World.cell? _ ⟨w.heap.size, 0, none⟩ = some (.string name) := Bag.cell_at S2.out 0 rfl 0 rfl
      have f1 : World.cell? _ ⟨w.heap.size, 1, none⟩ = some (.slice (some ad) N c) := Bag.cell_at S2.out 0 rfl 1 rfl
      have f2 : World.cell? _ ⟨w.heap.size, 2, none⟩ = some (.int .i64 auto) := Bag.cell_at S2.out 0 rfl 2 rfl
      have f3 : World.cell? _ ⟨w.heap.size + 1, 0, none⟩ = some (.int .i64 kd2) := Bag.cell_at S2.out 1 rfl 0 rfl
      have f4 : World.cell? _ ⟨w.heap.size + 1, 1, none⟩ = some (.int .i64 n2) := Bag.cell_at S2.out 1 rfl 1 rfl
      have f5 : World.cell? _ ⟨w.heap.size + 1, 2, none⟩ = some (.string t2) := Bag.cell_at S2.out 1 rfl 2 rfl
      have f6 : World.cell? _ (ad.add (k * 4)) = some (.int .i64 kd) := (HK.out _ S2.out.old).1
      have f7 : World.cell? _ (⟨(ad.add (k * 4)).block, (ad.add (k * 4)).off + 1, none⟩) = some (.int .i64 n) := (HK.out _ S2.out.old).2.1
      have f8 : World.cell? _ (⟨(ad.add (k * 4)).block, (ad.add (k * 4)).off + 2, none⟩) = some (.string t) := (HK.out _ S2.out.old).2.2.1
      have f9 : World.cell? _ (⟨(ad.add (k * 4)).block, (ad.add (k * 4)).off + 3, none⟩) = some (.slice ia l.length ic) := (HK.out _ S2.out.old).2.2.2
      go_upto_region 4 with fail
      clear f0 f1 f2 f3 f4 f5 f6 f7 f8 f9
      have S3 := Lib.hid (show Sl.Sep w _ [L4.boxR w.heap.size 26 #[.string name, .slice (some ad) N c, .int .i64 auto], L4.boxR (w.heap.size + 1) 28 #[.int .i64 kd2, .int .i64 n2, .string t2], L4.boxR wr.heap.size 40 #[.int .i64 kd, .int .i64 n, .string t, .slice ia l.length ic]] from L4.push_box S2.out 40 #[.int .i64 kd, .int .i64 n, .string t, .slice ia l.length ic] wr.heap.size rfl)
      clear S2
      obtain ⟨g1, hg⟩ : ∃ g', g' = wr.heap.size := ⟨_, rfl⟩
      rw [← hg] at S3 ⊢
      clear hg
      generalize wr.alloc (.cells #[.int .i64 kd, .int .i64 n, .string t, .slice ia l.length ic] 40) = w1 at S3 ⊢
      have f0 : World.cell? _ ⟨w.heap.size, 0, none⟩ = some (.string name) := Bag.cell_at S3.out 0 rfl 0 rfl
      have f1 : World.cell? _ ⟨w.heap.size, 1, none⟩ = some (.slice (some ad) N c) := Bag.cell_at S3.out 0 rfl 1 rfl
      have f2 : World.cell? _ ⟨w.heap.size, 2, none⟩ = some (.int .i64 auto) := Bag.cell_at S3.out 0 rfl 2 rfl
      have f3 : World.cell? _ ⟨w.heap.size + 1, 0, none⟩ = some (.int .i64 kd2) := Bag.cell_at S3.out 1 rfl 0 rfl
      have f4 : World.cell? _ ⟨w.heap.size + 1, 1, none⟩ = some (.int .i64 n2) := Bag.cell_at S3.out 1 rfl 1 rfl
      have f5 : World.cell? _ ⟨w.heap.size + 1, 2, none⟩ = some (.string t2) := Bag.cell_at S3.out 1 rfl 2 rfl
      have f6 : World.cell? _ ⟨g1, 0, none⟩ = some (.int .i64 kd) := Bag.cell_at S3.out 2 rfl 0 rfl
      have f7 : World.cell? _ ⟨g1, 1, none⟩ = some (.int .i64 n) := Bag.cell_at S3.out 2 rfl 1 rfl
      have f8 : World.cell? _ ⟨g1, 2, none⟩ = some (.string t) := Bag.cell_at S3.out 2 rfl 2 rfl
      have f9 : World.cell? _ ⟨g1, 3, none⟩ = some (.slice ia l.length ic) := Bag.cell_at S3.out 2 rfl 3 rfl
      have f10 : World.cell? _ (ad.add (k * 4)) = some (.int .i64 kd) := (HK.out _ S3.out.old).1
      have f11 : World.cell? _ (⟨(ad.add (k * 4)).block, (ad.add (k * 4)).off + 1, none⟩) = some (.int .i64 n) := (HK.out _ S3.out.old).2.1
      have f12 : World.cell? _ (⟨(ad.add (k * 4)).block, (ad.add (k * 4)).off + 2, none⟩) = some (.string t) := (HK.out _ S3.out.old).2.2.1
      have f13 : World.cell? _ (⟨(ad.add (k * 4)).block, (ad.add (k * 4)).off + 3, none⟩) = some (.slice ia l.length ic) := (HK.out _ S3.out.old).2.2.2
      go_wp2_with fail
      go_at_call 79
      refine (HCMP.out _).mono ?_
      rintro e w2 ⟨rfl, hb⟩
      clear f0 f1 f2 f3 f4 f5 f6 f7 f8 f9 f10 f11 f12 f13
      have S4 := Lib.hid (show Sl.Sep w _ [L4.boxR w.heap.size 26 #[.string name, .slice (some ad) N c, .int .i64 auto], L4.boxR (w.heap.size + 1) 28 #[.int .i64 kd2, .int .i64 n2, .string t2], L4.boxR g1 40 #[.int .i64 kd, .int .i64 n, .string t, .slice ia l.length ic]] from S3.out.keep hb)
      clear S3
      clear hb
      have f0 : World.cell? _ ⟨w.heap.size, 0, none⟩ = some (.string name) := Bag.cell_at S4.out 0 rfl 0 rfl
      have f1 : World.cell? _ ⟨w.heap.size, 1, none⟩ = some (.slice (some ad) N c) := Bag.cell_at S4.out 0 rfl 1 rfl
      have f2 : World.cell? _ ⟨w.heap.size, 2, none⟩ = some (.int .i64 auto) := Bag.cell_at S4.out 0 rfl 2 rfl
      have f3 : World.cell? _ ⟨w.heap.size + 1, 0, none⟩ = some (.int .i64 kd2) := Bag.cell_at S4.out 1 rfl 0 rfl
      have f4 : World.cell? _ ⟨w.heap.size + 1, 1, none⟩ = some (.int .i64 n2) := Bag.cell_at S4.out 1 rfl 1 rfl
      have f5 : World.cell? _ ⟨w.heap.size + 1, 2, none⟩ = some (.string t2) := Bag.cell_at S4.out 1 rfl 2 rfl
      have f6 : World.cell? _ ⟨g1, 0, none⟩ = some (.int .i64 kd) := Bag.cell_at S4.out 2 rfl 0 rfl
      have f7 : World.cell? _ ⟨g1, 1, none⟩ = some (.int .i64 n) := Bag.cell_at S4.out 2 rfl 1 rfl
      have f8 : World.cell? _ ⟨g1, 2, none⟩ = some (.string t) := Bag.cell_at S4.out 2 rfl 2 rfl
      have f9 : World.cell? _ ⟨g1, 3, none⟩ = some (.slice ia l.length ic) := Bag.cell_at S4.out 2 rfl 3 rfl
      have f10 : World.cell? _ (ad.add (k * 4)) = some (.int .i64 kd) := (HK.out _ S4.out.old).1
      have f11 : World.cell? _ (⟨(ad.add (k * 4)).block, (ad.add (k * 4)).off + 1, none⟩) = some (.int .i64 n) := (HK.out _ S4.out.old).2.1
      have f12 : World.cell? _ (⟨(ad.add (k * 4)).block, (ad.add (k * 4)).off + 2, none⟩) = some (.string t) := (HK.out _ S4.out.old).2.2.1
      have f13 : World.cell? _ (⟨(ad.add (k * 4)).block, (ad.add (k * 4)).off + 3, none⟩) = some (.slice ia l.length ic) := (HK.out _ S4.out.old).2.2.2
      by_cases hc : 0 < cv
      · skip
        go_wp2_with fail
        go_ret
        exact ⟨by rw [plcI_at (xs := conI xs) (k := ⟨kd2, n2, t2⟩) k (Nat.le_of_lt (List.getElem?_eq_some_iff.1 HC.out).1) HA.out (fun h => by rw [(List.getElem?_eq_some_iff.1 HC.out).2, HCV.out]; exact hc)]; rfl, S4.out.old⟩
      · skip
        clear f0 f1 f2 f3 f4 f5 f6 f7 f8 f9 f10 f11 f12 f13
        have S5 := Lib.hid (show Sl.Sep w _ [L4.boxR w.heap.size 26 #[.string name, .slice (some ad) N c, .int .i64 auto], L4.boxR (w.heap.size + 1) 28 #[.int .i64 kd2, .int .i64 n2, .string t2]] from Bag.take S4.out [0, 1] (by rfl) (by decide))
        clear S4
        go_wp2_with fail
        go_roundw
        case rel => exact ⟨k + 1, by omega, by go_num, And.intro (fun j hj h => by
          by_cases e : j < k
          · exact HA.out j hj e
          · obtain rfl : j = k := by omega
            rw [(List.getElem?_eq_some_iff.1 HC.out).2, HCV.out]; omega) S5.out⟩
        case measure => simp [intOf]; omega
    · skip
      have f0 : World.cell? _ ⟨w.heap.size, 0, none⟩ = some (.string name) := Bag.cell_at S2.out 0 rfl 0 rfl
      have f1 : World.cell? _ ⟨w.heap.size, 1, none⟩ = some (.slice a N c) := Bag.cell_at S2.out 0 rfl 1 rfl
      have f2 : World.cell? _ ⟨w.heap.size, 2, none⟩ = some (.int .i64 auto) := Bag.cell_at S2.out 0 rfl 2 rfl
      have f3 : World.cell? _ ⟨w.heap.size + 1, 0, none⟩ = some (.int .i64 kd2) := Bag.cell_at S2.out 1 rfl 0 rfl
      have f4 : World.cell? _ ⟨w.heap.size + 1, 1, none⟩ = some (.int .i64 n2) := Bag.cell_at S2.out 1 rfl 1 rfl
      have f5 : World.cell? _ ⟨w.heap.size + 1, 2, none⟩ = some (.string t2) := Bag.cell_at S2.out 1 rfl 2 rfl
      go_wp2_with fail
      go_ret
      have hkN : k = N := by omega
      exact ⟨by rw [plcI_at (xs := conI xs) (k := ⟨kd2, n2, t2⟩) k (by rw [conI_length]; have := HN.out; omega) HA.out (fun h => absurd h (by rw [conI_length]; have := HN.out; omega)), hkN]; rfl, S2.out.old⟩
set_option maxHeartbeats 4000000 in
theorem autoAfter_any (auto : Int) (k0 : K) (h0 : 0 ≤ auto) (h1 : auto ≤ 1000000) (w : World) :
    Calls Try.prog 63 #[.int .i64 auto, k0.v] w fun e w' => e = .returned (.int .i64 (nextAuto auto k0)) ∧ Below w.heap.size w w' := by
  obtain ⟨pk, pn, pt⟩ := k0
  unfold L4.K.v
  obtain ⟨ba, hba⟩ : ∃ b, L1.inB pn (auto + 1) 1000000 = b := ⟨_, rfl⟩
  have HIA := fun w => L1.inRange_any pn (auto + 1) 1000000 w
  rw [hba] at HIA
  replace HIA := Lib.hid HIA
  have HBA := Lib.hid hba
  clear hba
  have hw1 : IntKind.i64.wrap (auto + 1) = auto + 1 := IntWalk.i64_in _ ⟨by omega, by omega⟩
  have S1 := Lib.hid (show Sl.Sep w (w.alloc (.cells #[.int .i64 pk, .int .i64 pn, .string pt] 28)) [L4.boxR w.heap.size 28 #[.int .i64 pk, .int .i64 pn, .string pt]] from L4.push_box (Sl.Sep.start w) 28 #[.int .i64 pk, .int .i64 pn, .string pt] (w.heap.size) (by simp))
  obtain ⟨wa, hwa⟩ : ∃ u, u = (w.alloc (.cells #[.int .i64 pk, .int .i64 pn, .string pt] 28)) := ⟨_, rfl⟩
  rw [← hwa] at S1
  go_enter Try.func63, Try.ntmps63
  go_upto_region 1 with fail
  rw [← hwa]
  clear hwa
  have f0 : World.cell? _ ⟨w.heap.size, 0, none⟩ = some (.int .i64 pk) := Bag.cell_at S1.out 0 rfl 0 rfl
  have f1 : World.cell? _ ⟨w.heap.size, 1, none⟩ = some (.int .i64 pn) := Bag.cell_at S1.out 0 rfl 1 rfl
  have f2 : World.cell? _ ⟨w.heap.size, 2, none⟩ = some (.string pt) := Bag.cell_at S1.out 0 rfl 2 rfl
  by_cases hk1 : pk = 1
  · subst hk1
    cases ba with
    | false =>
      go_wp2_with fail
      go_at_call 76
      refine (HIA.out _).mono ?_
      rintro e w1 ⟨rfl, rfl⟩
      go_wp2_with fail
      go_ret
      exact ⟨by unfold nextAuto; dsimp only; rw [HBA.out]; rfl, S1.out.old⟩
    | true =>
      go_wp2_with fail
      go_at_call 76
      refine (HIA.out _).mono ?_
      rintro e w1 ⟨rfl, rfl⟩
      go_wp2_with fail
      go_ret
      exact ⟨by unfold nextAuto; dsimp only; rw [HBA.out]; rfl, S1.out.old⟩
  · have hk2 : (pk == 1) = false := by simpa using hk1
    have HK2 := Lib.hid hk2
    go_wp2_with fail
    go_ret
    exact ⟨by unfold nextAuto; dsimp only; rw [HK2.out]; rfl, S1.out.old⟩
set_option maxHeartbeats 8000000 in
theorem insertI_any (g vb k : Nat) (ys : List LI) (z : LI) (hk : k ≤ ys.length) (hy : ys.length ≤ 1048576) (w : World) (hr : Reads w w.heap.size (some ⟨g, 0, none⟩) (cellsI ys)) (hv : Reads w w.heap.size (some ⟨vb, 0, none⟩) (cellsI [z])) :
    Calls Try.prog 61 #[.slice (some ⟨g, 0, none⟩) ys.length ys.length, .int .i64 k, .slice (some ⟨vb, 0, none⟩) 1 1] w fun e w' => ∃ a' c', e = .returned (.slice a' (ys.length + 1) c') ∧ OwnV w' w.heap.size 40 4 a' c' (ys.length + 1) (cellsI (ys.take k ++ z :: ys.drop k)) ∧ Below w.heap.size w w' := by
  obtain ⟨i0, hi1, hi2, hi3, hi4⟩ := itemInfo
  have HI := Lib.hid (And.intro hi1 (And.intro hi2 (And.intro hi3 hi4)))
  clear hi1 hi2 hi3 hi4
  have HR := Lib.hid (fun w' (h : Below w.heap.size w w') => hr.below h)
  have HV := Lib.hid (fun w' (h : Below w.heap.size w w') => hv.below h)
  obtain ⟨N, hN⟩ : ∃ n, n = ys.length := ⟨_, rfl⟩
  rw [← hN] at hy hk ⊢
  have hy' : (N : Int) ≤ 1048576 := by omega
  have hk' : (k : Int) ≤ (N : Int) := by omega
  have hcN := Lib.hid (show (cellsI ys).length = N * 4 by rw [cellsI_length, hN])
  have HN := Lib.hid hN
  clear hN hr hv
  have S1 := Lib.hid (show Sl.Sep w w [] from Sl.Sep.start w)
  by_cases hkN : k = N
  · subst hkN
    go_enter Try.func61, Try.ntmps61
    go_wp2_with (at_builtin; refine Run.wpList_grow_s S1.out rfl _ _ 24 rfl 40 i0 (.agg #[.int .i64 0, .int .i64 0, .string ⟨#[]⟩, .slice none 0 0]) 4 56 Try.underlying24 HI.out.1 HI.out.2.1 HI.out.2.2.1 HI.out.2.2.2 rfl ⟨g, 0, none⟩ k k (by rfl) w.heap.size (cellsI ys) (HR.out _ S1.out.old) hcN.out ⟨vb, 0, none⟩ 1 1 (by rfl) w.heap.size (cellsI [z]) (HV.out _ S1.out.old) (by rw [cellsI_length]; rfl) (cellsI_one _) (by omega) (by unfold maxLen; omega) (by omega) ?_; intro w1 C hC S')
    go_ret
    refine ⟨_, _, rfl, ?_, S'.old⟩
    have h := Sv.own_from S' 0 rfl
    rw [List.take_of_length_le (by have := HN.out; omega), List.drop_of_length_le (by have := HN.out; omega), cellsI_append]
    exact h
  · skip
    have hklt : k < N := by omega
    have hkNi : (k : Int) < (N : Int) := by omega
    have hne : ¬ (k : Int) = (N : Int) := by omega
    have hne2 : ¬ N = k := by omega
    obtain ⟨d, hd⟩ : ∃ d : Nat, (N : Int) + 1 - (k : Int) = (d : Int) := ⟨N + 1 - k, by omega⟩
    have hdN : k + d = N + 1 := by omega
    have hgt : (N : Int) < (N : Int) + 1 := by omega
    have hwd : IntKind.i64.wrap (N : Int) = (N : Int) := IntWalk.i64_in _ ⟨by omega, by omega⟩
    have HKD := Lib.hid hdN
    clear hdN hkN
    go_enter Try.func61, Try.ntmps61
    go_upto_region 10 with (at_builtin; refine Run.wpList_zeros_s S1.out rfl _ _ 24 3 rfl 40 i0 (.agg #[.int .i64 0, .int .i64 0, .string ⟨#[]⟩, .slice none 0 0]) 4 56 .i64 .i64 Try.underlying24 Try.underlying3 HI.out.1 HI.out.2.1 HI.out.2.2.1 HI.out.2.2.2 rfl (by omega) ⟨g, 0, none⟩ k N d (by rfl) (by rfl) w.heap.size (cellsI (ys.take k)) (reads_head (HR.out _ S1.out.old) k) (by rw [cellsI_length, List.length_take]; have := HN.out; omega) (by omega) (by have := HKD.out; omega) (by have := HKD.out; unfold maxLen; omega) (by have := HKD.out; omega) ?_; intro w1 C hC S')
    obtain ⟨g2, hg2⟩ : ∃ g', g' = w.heap.size := ⟨_, rfl⟩
    rw [← hg2] at S' ⊢
    clear hg2
    obtain ⟨Zs, hZs⟩ : ∃ Z, Z = (Builtin.zeroCells (Value.agg #[.int .i64 0, .int .i64 0, .string ⟨#[]⟩, .slice none 0 0]).cells d).toList := ⟨_, rfl⟩
    rw [← hZs] at S'
    have HZ := Lib.hid (show Zs.length = d * 4 by rw [hZs, Array.length_toList, size_zeroCells]; rfl)
    clear hZs
    have HA := Lib.hid (show (cellsI (ys.take k)).length = k * 4 by rw [cellsI_length, List.length_take]; have := HN.out; omega)
    have HL := Lib.hid (show k * 4 + 4 ≤ (cellsI (ys.take k) ++ Zs).length ∧ 4 ≤ Zs.length from by rw [List.length_append, HA.out, HZ.out]; have := HKD.out; omega)
    have hCk : ¬ C = k := by have := HKD.out; omega
    have hCk1 : ¬ C = k + 1 := by have := HKD.out; omega
    have hkC : (k : Int) ≤ (C : Int) := by omega
    have hk1C : (k : Int) + 1 ≤ (C : Int) := by omega
    have hk10 : (0 : Int) ≤ (k : Int) + 1 := by omega
    have hw2 : IntKind.i64.wrap ((k : Int) + 1) = (k : Int) + 1 := IntWalk.i64_in _ ⟨by omega, by omega⟩
    have ht1 : ((k : Int) + 1).toNat = k + 1 := by omega
    have hd1 : (1 : Int) ≤ (d : Int) := by have := HKD.out; omega
    have hC63 : C ≤ 9223372036854775807 := by
      rcases (Sv.own_at S' 0 rfl).form with ⟨e, _⟩ | ⟨g, _, _, _, _, h⟩
      · cases e
      · unfold maxLen at h; omega
    have S2 := Lib.hid (show Sl.Sep w _ [Sv.ownV 40 4 (some ⟨g2, 0, none⟩) C (k + d) (cellsI (ys.take k) ++ Zs)] from S')
    clear S1
    clear S' hC
    have HM1 := Lib.hid (show (cellsI [z]).length = Nat.min 1 d * 4 from by rw [cellsI_length, show Nat.min 1 d = 1 from Nat.min_eq_left (by omega)]; rfl)
    have hcp := fun ty => Run.run_copy_s (P := Try.prog) S2.out 0 rfl 24 24 ty i0 Try.underlying24 HI.out.1 HI.out.2.2.1 (k * 4) d (C - k) 1 1 (some ⟨vb, 0, none⟩) (cellsI [z]) HM1.out w.heap.size (HV.out _ S2.out.old) (by rw [cellsI_length]; exact HL.out.1) (cellsI_one _)
    obtain ⟨w2, hw⟩ : ∃ u, u = World.setCells w1 g2 (k * 4) (cellsI [z]) := ⟨_, rfl⟩
    rw [← hw] at hcp
    have HW := Lib.hid hw
    clear hw
    go_upto_region 11 with fail
    have S3 := Lib.hid (show Sl.Sep w _ [Sv.ownV 40 4 (some ⟨g2, 0, none⟩) C (k + d) (cellsI (ys.take k ++ [z]) ++ Zs.drop 4)] from (by have h := Run.put_run S2.out 0 rfl (k * 4) (cellsI [z]) (by rw [cellsI_length]; exact HL.out.1); rw [← HW.out, Run.over_at _ _ _ _ HA.out (by rw [cellsI_length]; exact HL.out.2), ← List.append_assoc, ← cellsI_append, cellsI_length] at h; exact h))
    clear S2
    clear hcp HW
    have HD := Lib.hid (show (cellsI (ys.drop k)).length = (N - k) * 4 by rw [cellsI_length, List.length_drop, ← HN.out])
    have HM2 := Lib.hid (show (cellsI (ys.drop k)).length = Nat.min (N - k) (k + d - (k + 1)) * 4 from by rw [HD.out, show k + d - (k + 1) = N - k from by have := HKD.out; omega, show Nat.min (N - k) (N - k) = N - k from Nat.min_self _])
    have HA2 := Lib.hid (show (cellsI (ys.take k ++ [z])).length = (k + 1) * 4 by rw [cellsI_length, List.length_append, List.length_take]; have := HN.out; simp; omega)
    have HZ2 := Lib.hid (show (Zs.drop 4).length = (cellsI (ys.drop k)).length by rw [List.length_drop, HZ.out, HD.out]; have := HKD.out; omega)
    have HQ2 := Lib.hid (show (k + 1) * 4 + (cellsI (ys.drop k)).length ≤ (cellsI (ys.take k ++ [z]) ++ Zs.drop 4).length from by rw [List.length_append, HA2.out, HZ2.out]; exact Nat.le_refl _)
    refine wp_region_held_drew (S := (fun w' => True)) (by kernel_rfl) trivial (fun hS => ?_)
    have S4 := Lib.hid (show Sl.Sep w _ [Sv.ownV 40 4 (some ⟨g2, 0, none⟩) C (k + d) (cellsI (ys.take k ++ [z]) ++ Zs.drop 4)] from Bag.drew1 S3.out)
    clear S3
    generalize World.drew _ = w3 at hS S4 ⊢
    refine tk 0 rfl ?_
    try simp only [zp0, zp1, zp2, zp3, zp4]
    refine tk 1 rfl ?_
    try simp only [zp0, zp1, zp2, zp3, zp4]
    refine tk 2 rfl ?_
    try simp only [zp0, zp1, zp2, zp3, zp4]
    refine tk 3 rfl ?_
    try simp only [zp0, zp1, zp2, zp3, zp4]
    refine tk 4 rfl ?_
    try simp only [zp0, zp1, zp2, zp3, zp4]
    refine tk 5 rfl ?_
    try simp only [zp0, zp1, zp2, zp3, zp4]
    refine tk 6 rfl ?_
    try simp only [zp0, zp1, zp2, zp3, zp4]
    refine tk 7 rfl ?_
    try simp only [zp0, zp1, zp2, zp3, zp4]
    refine Reg.one_op (i := 8) rfl (by kernel_rfl) (fun K hK => ?_)
    refine Run.step_copy_s S4.out 0 rfl rfl _ _ 24 24 rfl i0 Try.underlying24 HI.out.1 HI.out.2.2.1 ((k + 1) * 4) (k + d - (k + 1)) (C - (k + 1)) (by rfl) (some ⟨g, k * 4, none⟩) (N - k) (N - k) (by rfl) w.heap.size (cellsI (ys.drop k)) (reads_rest2 (HR.out _ S4.out.old) k) HM2.out HQ2.out (cellsI_one _) ?_
    intro w4 S'
    have S5 := Lib.hid (show Sl.Sep w _ [Sv.ownV 40 4 (some ⟨g2, 0, none⟩) C (k + d) (cellsI (ys.take k ++ z :: ys.drop k))] from (by have h := S'; rw [Run.over_at _ _ _ _ HA2.out (Nat.le_of_eq HZ2.out.symm), List.drop_of_length_le (Nat.le_of_eq HZ2.out), List.append_nil, ← cellsI_append, List.append_assoc] at h; exact h))
    clear S4
    clear S'
    refine hK.out _ _ trivial (fun hS => ?_)
    clear hK K
    try simp only [zp0, zp1, zp2, zp3, zp4]
    refine wpAnyH_done (by kernel_rfl) ?_ _
    go_wp2_with fail
    go_ret
    refine ⟨some ⟨g2, 0, none⟩, C, ?_, ?_, S5.out.old⟩
    · show Ending.returned (.slice (some ⟨g2, 0, none⟩) (k + d) C) = _
      rw [HKD.out]
    · have h := Sv.own_from S5.out 0 rfl
      rw [HKD.out] at h
      exact h
end Go.Proofs.Ytkfejjoehgipmaa.L6
