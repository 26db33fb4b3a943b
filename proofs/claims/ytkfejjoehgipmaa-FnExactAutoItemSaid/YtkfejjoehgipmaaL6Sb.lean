/-
  The contracts of chapter 6's functions of the specification that only read: FindItem, IsStore, EqualStores, SizeStore. Conditions: keys' texts of at most 2^40 bytes, at most 2^20 fields and items. (Written by my program gen_l6b.py.)
-/
import Derived.Test.YtkfejjoehgipmaaTk
import Derived.Test.YtkfejjoehgipmaaL6Sa
import Derived.Laws.StructEq
namespace Go.Proofs.Ytkfejjoehgipmaa.L6
set_option maxRecDepth 100000
open L4 (K isK cmpK R inR encU)
open L5 (F isR isN cellsF encR eqR Small)
open Go.ChangeShapes Go.WideShapes Go.ChangeAt Go.RowKit Mem Sl Ex L2 Sv Bag
set_option linter.unusedVariables false
set_option linter.unusedSimpArgs false

theorem key_eq (kd n : Int) (s : ByteArray) (kd2 n2 : Int) (s2 : ByteArray) (w : World) :
    (Op.equalIn 10000 28 (.agg #[.int .i64 kd, .int .i64 n, .string s]) (.agg #[.int .i64 kd2, .int .i64 n2, .string s2])).run Try.prog w = .ok (eqK ⟨kd, n, s⟩ ⟨kd2, n2, s2⟩) w := by
  unfold eqK K.t
  rw [← ByteArray.toList_eq, ← ByteArray.toList_eq]
  cases h1 : kd == kd2 <;> cases h2 : n == n2 <;> cases h3 : s.toList == s2.toList <;> simp [go_sem, h1, h2, h3]
set_option maxHeartbeats 2000000 in
theorem specFindItem_any (y : LS) (k0 : K) (hf : FitS y.con) (w : World) (hr : RowsRd w w.heap.size y.rows) :
    Calls Try.prog 37 #[y.v, k0.v] w fun e w' => e = .returned (.int .i64 (fndI y.con.items k0)) ∧ Below w.heap.size w w' := by
  obtain ⟨name, a, c, xs, auto⟩ := y
  have HR := Lib.hid (fun w' (h : Below w.heap.size w w') => LS.outer (hr.below h))
  have HX := Lib.hid (fun w' (h : Below w.heap.size w w') => (LS.inner (hr.below h)).more h.size)
  have HF := Lib.hid hf.items
  have HNM := Lib.hid hf.name
  have hl := hf.len
  simp only [LS.con, conI_length] at hl
  dsimp only [LS.con] at HR HX HF HNM
  try unfold LS.v LS.cells LS.con
  try dsimp only
  obtain ⟨N, hN⟩ : ∃ n, n = xs.length := ⟨_, rfl⟩
  rw [← hN] at hl ⊢
  have hl' : (N : Int) ≤ 1048576 := by omega
  have HN := Lib.hid hN
  clear hN hr hf
  obtain ⟨kd2, n2, t2⟩ := k0
  unfold L4.K.v
  have S1 := Lib.hid (show Sl.Sep w ((w.alloc (.cells #[.string name, .slice a N c, .int .i64 auto] 26)).alloc (.cells #[.int .i64 kd2, .int .i64 n2, .string t2] 28)) [L4.boxR w.heap.size 26 #[.string name, .slice a N c, .int .i64 auto], L4.boxR (w.heap.size + 1) 28 #[.int .i64 kd2, .int .i64 n2, .string t2]] from L4.push_box (L4.push_box (Sl.Sep.start w) 26 #[.string name, .slice a N c, .int .i64 auto] (w.heap.size) (by simp)) 28 #[.int .i64 kd2, .int .i64 n2, .string t2] (w.heap.size + 1) (by simp))
  obtain ⟨wa, hwa⟩ : ∃ u, u = ((w.alloc (.cells #[.string name, .slice a N c, .int .i64 auto] 26)).alloc (.cells #[.int .i64 kd2, .int .i64 n2, .string t2] 28)) := ⟨_, rfl⟩
  rw [← hwa] at S1
  go_enter Try.func37, Try.ntmps37
  go_upto_region 1 with fail
  rw [← hwa]
  clear hwa
  go_wp2_with fail
  go_loopw [5] (fun i wr => ∃ k : Nat, k ≤ N ∧ i = .int .i64 k ∧ Hid ((∀ j (hj : j < (conI xs).length), j < k → eqK (conI xs)[j].k ⟨kd2, n2, t2⟩ = false) ∧ Sl.Sep w wr [L4.boxR w.heap.size 26 #[.string name, .slice a N c, .int .i64 auto], L4.boxR (w.heap.size + 1) 28 #[.int .i64 kd2, .int .i64 n2, .string t2]])) (fun i _ => N - (intOf i).toNat)
  case atStart => exact ⟨0, Nat.zero_le _, rfl, And.intro (fun j hj h => absurd h (by omega)) S1.out⟩
  case round =>
    obtain ⟨k, hk, rfl, hrel⟩ := hrel
    have HA := Lib.hid hrel.out.1
    have S2 := Lib.hid hrel.out.2
    clear hrel S1
    by_cases hlt : (k : Int) < (N : Int)
    · skip
      have hkl : k < xs.length := by have := HN.out; omega
      obtain ⟨ad, x, rfl, hx⟩ := readsI_some (HR.out _ S2.out.old) k hkl
      obtain ⟨⟨kd, n, t⟩, ia, ic, l⟩ := x
      have HK := Lib.hid (fun w' (h : Below w.heap.size w w') => readsI_at (HR.out _ h) k _ hx)
      try dsimp only at HK
      have HFI := Lib.hid (fit_at HF.out hx)
      try dsimp only [LI.con] at HFI
      have hci : k < (conI xs).length := by rw [conI_length]; exact hkl
      have HC := Lib.hid (show (conI xs)[k] = ⟨⟨kd, n, t⟩, l⟩ by rw [conI_get xs k hkl]; rw [List.getElem?_eq_getElem hkl] at hx; rw [Option.some.inj hx]; rfl)
      clear hx
      obtain ⟨b, hb⟩ : ∃ b, eqK ⟨kd, n, t⟩ ⟨kd2, n2, t2⟩ = b := ⟨_, rfl⟩
      have HE := fun w => key_eq kd n t kd2 n2 t2 w
      rw [hb] at HE
      have HB := Lib.hid hb
      clear hb
      have f0 : World.cell? _ ⟨w.heap.size, 0, none⟩ = some (.string name) := Bag.cell_at S2.out 0 rfl 0 rfl
      have f1 : World.cell? _ ⟨w.heap.size, 1, none⟩ = some (.slice (some ad) N c) := Bag.cell_at S2.out 0 rfl 1 rfl
      have f2 : World.cell? _ ⟨w.heap.size, 2, none⟩ = some (.int .i64 auto) := Bag.cell_at S2.out 0 rfl 2 rfl
      have f3 : World.cell? _ ⟨w.heap.size + 1, 0, none⟩ = some (.int .i64 kd2) := Bag.cell_at S2.out 1 rfl 0 rfl
      have f4 : World.cell? _ ⟨w.heap.size + 1, 1, none⟩ = some (.int .i64 n2) := Bag.cell_at S2.out 1 rfl 1 rfl
      have f5 : World.cell? _ ⟨w.heap.size + 1, 2, none⟩ = some (.string t2) := Bag.cell_at S2.out 1 rfl 2 rfl
      have f6 : World.cell? _ (ad.add (k * 4)) = some (.int .i64 kd) := (HK.out _ S2.out.old).1
      have f7 : World.cell? _ (⟨(ad.add (k * 4)).block, (ad.add (k * 4)).off + 1, none⟩) = some (.int .i64 n) := (HK.out _ S2.out.old).2.1
      have f8 : World.cell? _ (⟨(ad.add (k * 4)).block, (ad.add (k * 4)).off + 2, none⟩) = some (.string t) := (HK.out _ S2.out.old).2.2.1
      have f9 : World.cell? _ (⟨(ad.add (k * 4)).block, (ad.add (k * 4)).off + 3, none⟩) = some (.slice ia l.length ic) := (HK.out _ S2.out.old).2.2.2
      cases b with
      | true =>
        go_upto_region 4 with fail
        clear f0 f1 f2 f3 f4 f5 f6 f7 f8 f9
        refine wp_region_held_drew (S := (fun w' => World.cell? w' ⟨w.heap.size, 0, none⟩ = some (.string name) ∧ World.cell? w' ⟨w.heap.size, 1, none⟩ = some (.slice (some ad) N c) ∧ World.cell? w' ⟨w.heap.size, 2, none⟩ = some (.int .i64 auto) ∧ World.cell? w' ⟨w.heap.size + 1, 0, none⟩ = some (.int .i64 kd2) ∧ World.cell? w' ⟨w.heap.size + 1, 1, none⟩ = some (.int .i64 n2) ∧ World.cell? w' ⟨w.heap.size + 1, 2, none⟩ = some (.string t2) ∧ World.cell? w' (ad.add (k * 4)) = some (.int .i64 kd) ∧ World.cell? w' (⟨(ad.add (k * 4)).block, (ad.add (k * 4)).off + 1, none⟩) = some (.int .i64 n) ∧ World.cell? w' (⟨(ad.add (k * 4)).block, (ad.add (k * 4)).off + 2, none⟩) = some (.string t) ∧ World.cell? w' (⟨(ad.add (k * 4)).block, (ad.add (k * 4)).off + 3, none⟩) = some (.slice ia l.length ic))) (by kernel_rfl) ⟨Bag.cell_at S2.out 0 rfl 0 rfl, Bag.cell_at S2.out 0 rfl 1 rfl, Bag.cell_at S2.out 0 rfl 2 rfl, Bag.cell_at S2.out 1 rfl 0 rfl, Bag.cell_at S2.out 1 rfl 1 rfl, Bag.cell_at S2.out 1 rfl 2 rfl, (HK.out _ S2.out.old).1, (HK.out _ S2.out.old).2.1, (HK.out _ S2.out.old).2.2.1, (HK.out _ S2.out.old).2.2.2⟩ (fun hS => ?_)
        have S3 := Lib.hid (show Sl.Sep w _ [L4.boxR w.heap.size 26 #[.string name, .slice (some ad) N c, .int .i64 auto], L4.boxR (w.heap.size + 1) 28 #[.int .i64 kd2, .int .i64 n2, .string t2]] from Bag.drew1 S2.out)
        clear S2
        generalize World.drew _ = w1 at hS S3 ⊢
        refine tk 0 rfl ?_
        try simp only [zp0, zp1, zp2, zp3, zp4]
        refine tk 1 rfl ?_
        try simp only [zp0, zp1, zp2, zp3, zp4]
        refine tk 2 rfl ?_
        try simp only [zp0, zp1, zp2, zp3, zp4]
        refine tk 3 rfl ?_
        try simp only [zp0, zp1, zp2, zp3, zp4]
        refine tk 4 rfl ?_
        try simp only [zp0, zp1, zp2, zp3, zp4]
        refine tk 5 rfl ?_
        try simp only [zp0, zp1, zp2, zp3, zp4]
        refine tk 6 rfl ?_
        try simp only [zp0, zp1, zp2, zp3, zp4]
        refine tk 7 rfl ?_
        try simp only [zp0, zp1, zp2, zp3, zp4]
        refine wpAnyH_done (by kernel_rfl) ?_ _
        have f0 : World.cell? _ ⟨w.heap.size, 0, none⟩ = some (.string name) := Bag.cell_at S3.out 0 rfl 0 rfl
        have f1 : World.cell? _ ⟨w.heap.size, 1, none⟩ = some (.slice (some ad) N c) := Bag.cell_at S3.out 0 rfl 1 rfl
        have f2 : World.cell? _ ⟨w.heap.size, 2, none⟩ = some (.int .i64 auto) := Bag.cell_at S3.out 0 rfl 2 rfl
        have f3 : World.cell? _ ⟨w.heap.size + 1, 0, none⟩ = some (.int .i64 kd2) := Bag.cell_at S3.out 1 rfl 0 rfl
        have f4 : World.cell? _ ⟨w.heap.size + 1, 1, none⟩ = some (.int .i64 n2) := Bag.cell_at S3.out 1 rfl 1 rfl
        have f5 : World.cell? _ ⟨w.heap.size + 1, 2, none⟩ = some (.string t2) := Bag.cell_at S3.out 1 rfl 2 rfl
        have f6 : World.cell? _ (ad.add (k * 4)) = some (.int .i64 kd) := (HK.out _ S3.out.old).1
        have f7 : World.cell? _ (⟨(ad.add (k * 4)).block, (ad.add (k * 4)).off + 1, none⟩) = some (.int .i64 n) := (HK.out _ S3.out.old).2.1
        have f8 : World.cell? _ (⟨(ad.add (k * 4)).block, (ad.add (k * 4)).off + 2, none⟩) = some (.string t) := (HK.out _ S3.out.old).2.2.1
        have f9 : World.cell? _ (⟨(ad.add (k * 4)).block, (ad.add (k * 4)).off + 3, none⟩) = some (.slice ia l.length ic) := (HK.out _ S3.out.old).2.2.2
        go_wp2_with fail
        go_ret
        exact ⟨by unfold fndI; rw [fndO_at k hci (by rw [HC.out]; exact HB.out) HA.out]; rfl, S3.out.old⟩
      | false =>
        go_upto_region 4 with fail
        clear f0 f1 f2 f3 f4 f5 f6 f7 f8 f9
        refine wp_region_held_drew (S := (fun w' => World.cell? w' ⟨w.heap.size, 0, none⟩ = some (.string name) ∧ World.cell? w' ⟨w.heap.size, 1, none⟩ = some (.slice (some ad) N c) ∧ World.cell? w' ⟨w.heap.size, 2, none⟩ = some (.int .i64 auto) ∧ World.cell? w' ⟨w.heap.size + 1, 0, none⟩ = some (.int .i64 kd2) ∧ World.cell? w' ⟨w.heap.size + 1, 1, none⟩ = some (.int .i64 n2) ∧ World.cell? w' ⟨w.heap.size + 1, 2, none⟩ = some (.string t2) ∧ World.cell? w' (ad.add (k * 4)) = some (.int .i64 kd) ∧ World.cell? w' (⟨(ad.add (k * 4)).block, (ad.add (k * 4)).off + 1, none⟩) = some (.int .i64 n) ∧ World.cell? w' (⟨(ad.add (k * 4)).block, (ad.add (k * 4)).off + 2, none⟩) = some (.string t) ∧ World.cell? w' (⟨(ad.add (k * 4)).block, (ad.add (k * 4)).off + 3, none⟩) = some (.slice ia l.length ic))) (by kernel_rfl) ⟨Bag.cell_at S2.out 0 rfl 0 rfl, Bag.cell_at S2.out 0 rfl 1 rfl, Bag.cell_at S2.out 0 rfl 2 rfl, Bag.cell_at S2.out 1 rfl 0 rfl, Bag.cell_at S2.out 1 rfl 1 rfl, Bag.cell_at S2.out 1 rfl 2 rfl, (HK.out _ S2.out.old).1, (HK.out _ S2.out.old).2.1, (HK.out _ S2.out.old).2.2.1, (HK.out _ S2.out.old).2.2.2⟩ (fun hS => ?_)
        have S3 := Lib.hid (show Sl.Sep w _ [L4.boxR w.heap.size 26 #[.string name, .slice (some ad) N c, .int .i64 auto], L4.boxR (w.heap.size + 1) 28 #[.int .i64 kd2, .int .i64 n2, .string t2]] from Bag.drew1 S2.out)
        clear S2
        generalize World.drew _ = w1 at hS S3 ⊢
        refine tk 0 rfl ?_
        try simp only [zp0, zp1, zp2, zp3, zp4]
        refine tk 1 rfl ?_
        try simp only [zp0, zp1, zp2, zp3, zp4]
        refine tk 2 rfl ?_
        try simp only [zp0, zp1, zp2, zp3, zp4]
        refine tk 3 rfl ?_
        try simp only [zp0, zp1, zp2, zp3, zp4]
        refine tk 4 rfl ?_
        try simp only [zp0, zp1, zp2, zp3, zp4]
        refine tk 5 rfl ?_
        try simp only [zp0, zp1, zp2, zp3, zp4]
        refine tk 6 rfl ?_
        try simp only [zp0, zp1, zp2, zp3, zp4]
        refine tk 7 rfl ?_
        try simp only [zp0, zp1, zp2, zp3, zp4]
        refine wpAnyH_done (by kernel_rfl) ?_ _
        have f0 : World.cell? _ ⟨w.heap.size, 0, none⟩ = some (.string name) := Bag.cell_at S3.out 0 rfl 0 rfl
        have f1 : World.cell? _ ⟨w.heap.size, 1, none⟩ = some (.slice (some ad) N c) := Bag.cell_at S3.out 0 rfl 1 rfl
        have f2 : World.cell? _ ⟨w.heap.size, 2, none⟩ = some (.int .i64 auto) := Bag.cell_at S3.out 0 rfl 2 rfl
        have f3 : World.cell? _ ⟨w.heap.size + 1, 0, none⟩ = some (.int .i64 kd2) := Bag.cell_at S3.out 1 rfl 0 rfl
        have f4 : World.cell? _ ⟨w.heap.size + 1, 1, none⟩ = some (.int .i64 n2) := Bag.cell_at S3.out 1 rfl 1 rfl
        have f5 : World.cell? _ ⟨w.heap.size + 1, 2, none⟩ = some (.string t2) := Bag.cell_at S3.out 1 rfl 2 rfl
        have f6 : World.cell? _ (ad.add (k * 4)) = some (.int .i64 kd) := (HK.out _ S3.out.old).1
        have f7 : World.cell? _ (⟨(ad.add (k * 4)).block, (ad.add (k * 4)).off + 1, none⟩) = some (.int .i64 n) := (HK.out _ S3.out.old).2.1
        have f8 : World.cell? _ (⟨(ad.add (k * 4)).block, (ad.add (k * 4)).off + 2, none⟩) = some (.string t) := (HK.out _ S3.out.old).2.2.1
        have f9 : World.cell? _ (⟨(ad.add (k * 4)).block, (ad.add (k * 4)).off + 3, none⟩) = some (.slice ia l.length ic) := (HK.out _ S3.out.old).2.2.2
        go_wp2_with fail
        go_roundw
        case rel => exact ⟨k + 1, by omega, by go_num, And.intro (fun j hj h => by
          by_cases e : j < k
          · exact HA.out j hj e
          · obtain rfl : j = k := by omega
            rw [HC.out]; exact HB.out) S3.out⟩
        case measure => simp [intOf]; omega
    · skip
      have f0 : World.cell? _ ⟨w.heap.size, 0, none⟩ = some (.string name) := Bag.cell_at S2.out 0 rfl 0 rfl
      have f1 : World.cell? _ ⟨w.heap.size, 1, none⟩ = some (.slice a N c) := Bag.cell_at S2.out 0 rfl 1 rfl
      have f2 : World.cell? _ ⟨w.heap.size, 2, none⟩ = some (.int .i64 auto) := Bag.cell_at S2.out 0 rfl 2 rfl
      have f3 : World.cell? _ ⟨w.heap.size + 1, 0, none⟩ = some (.int .i64 kd2) := Bag.cell_at S2.out 1 rfl 0 rfl
      have f4 : World.cell? _ ⟨w.heap.size + 1, 1, none⟩ = some (.int .i64 n2) := Bag.cell_at S2.out 1 rfl 1 rfl
      have f5 : World.cell? _ ⟨w.heap.size + 1, 2, none⟩ = some (.string t2) := Bag.cell_at S2.out 1 rfl 2 rfl
      go_wp2_with fail
      go_ret
      obtain rfl : k = N := by omega
      exact ⟨by unfold fndI; rw [fndO_none (fun j hj => HA.out j hj (by have := HN.out; rw [conI_length] at hj; omega))]; rfl, S2.out.old⟩
theorem con_of {xs : List LI} {k : Nat} {x : LI} (hx : xs[k]? = some x) : (conI xs)[k]? = some x.con := by unfold conI; rw [List.getElem?_map, hx]; rfl
set_option maxHeartbeats 8000000 in
theorem specIsStore_any (y : LS) (hf : FitS y.con) (w : World) (hr : RowsRd w w.heap.size y.rows) :
    Calls Try.prog 28 #[y.v] w fun e w' => e = .returned (.bool (isS y.con)) ∧ Below w.heap.size w w' := by
  obtain ⟨name, a, c, xs, auto⟩ := y
  have HR := Lib.hid (fun w' (h : Below w.heap.size w w') => LS.outer (hr.below h))
  have HX := Lib.hid (fun w' (h : Below w.heap.size w w') => (LS.inner (hr.below h)).more h.size)
  have HF := Lib.hid hf.items
  have HNM := Lib.hid hf.name
  have hl := hf.len
  simp only [LS.con, conI_length] at hl
  dsimp only [LS.con] at HR HX HF HNM
  try unfold LS.v LS.cells LS.con
  try dsimp only
  obtain ⟨N, hN⟩ : ∃ n, n = xs.length := ⟨_, rfl⟩
  rw [← hN] at hl ⊢
  have hl' : (N : Int) ≤ 1048576 := by omega
  have HN := Lib.hid hN
  clear hN hr hf
  have S1 := Lib.hid (show Sl.Sep w (w.alloc (.cells #[.string name, .slice a N c, .int .i64 auto] 26)) [L4.boxR w.heap.size 26 #[.string name, .slice a N c, .int .i64 auto]] from L4.push_box (Sl.Sep.start w) 26 #[.string name, .slice a N c, .int .i64 auto] (w.heap.size) (by simp))
  obtain ⟨wa, hwa⟩ : ∃ u, u = (w.alloc (.cells #[.string name, .slice a N c, .int .i64 auto] 26)) := ⟨_, rfl⟩
  rw [← hwa] at S1
  go_enter Try.func28, Try.ntmps28
  go_upto_region 1 with fail
  rw [← hwa]
  clear hwa
  go_wp2_with fail
  go_loopw [3] (fun i wr => ∃ k : Nat, k ≤ N ∧ i = .int .i64 k ∧ Hid ((∀ j, j < k → okIx (conI xs) j = true) ∧ Sl.Sep w wr [L4.boxR w.heap.size 26 #[.string name, .slice a N c, .int .i64 auto]])) (fun i _ => N - (intOf i).toNat)
  case atStart => exact ⟨0, Nat.zero_le _, rfl, And.intro (fun j h => absurd h (by omega)) S1.out⟩
  case round =>
    obtain ⟨k, hk, rfl, hrel⟩ := hrel
    have HA := Lib.hid hrel.out.1
    have S2 := Lib.hid hrel.out.2
    clear hrel S1
    by_cases hlt : (k : Int) < (N : Int)
    · skip
      have hkl : k < xs.length := by have := HN.out; omega
      obtain ⟨ad, x, rfl, hx⟩ := readsI_some (HR.out _ S2.out.old) k hkl
      obtain ⟨⟨kd, n, t⟩, ia, ic, l⟩ := x
      have HK := Lib.hid (fun w' (h : Below w.heap.size w w') => readsI_at (HR.out _ h) k _ hx)
      try dsimp only at HK
      have HFI := Lib.hid (fit_at HF.out hx)
      try dsimp only [LI.con] at HFI
      have hci : k < (conI xs).length := by rw [conI_length]; exact hkl
      have HC := Lib.hid (show (conI xs)[k]? = some (⟨⟨kd, n, t⟩, l⟩ : It) from con_of hx)
      obtain ⟨bk, hbk⟩ : ∃ b, isK ⟨kd, n, t⟩ = b := ⟨_, rfl⟩
      have HIK := fun w => L4.specIsKey_any ⟨kd, n, t⟩ (by have : t.size ≤ 1099511627776 := HFI.out.text; show t.size ≤ _; omega) w
      rw [hbk] at HIK
      replace HIK := Lib.hid HIK
      have HBK := Lib.hid hbk
      obtain ⟨br, hbr⟩ : ∃ b, isR l = b := ⟨_, rfl⟩
      have HIR := fun w' (h : Below w.heap.size w w') => L5.specIsRecord_any ia ic l (by have : l.length ≤ 1048576 := HFI.out.len; omega) HFI.out.small w' (((HX.out _ h).at_ (rowsI_mem hx)).reads)
      rw [hbr] at HIR
      replace HIR := Lib.hid HIR
      have HBR := Lib.hid hbr
      clear hbk hbr
      have f0 : World.cell? _ ⟨w.heap.size, 0, none⟩ = some (.string name) := Bag.cell_at S2.out 0 rfl 0 rfl
      have f1 : World.cell? _ ⟨w.heap.size, 1, none⟩ = some (.slice (some ad) N c) := Bag.cell_at S2.out 0 rfl 1 rfl
      have f2 : World.cell? _ ⟨w.heap.size, 2, none⟩ = some (.int .i64 auto) := Bag.cell_at S2.out 0 rfl 2 rfl
      have f3 : World.cell? _ (ad.add (k * 4)) = some (.int .i64 kd) := (HK.out _ S2.out.old).1
      have f4 : World.cell? _ (⟨(ad.add (k * 4)).block, (ad.add (k * 4)).off + 1, none⟩) = some (.int .i64 n) := (HK.out _ S2.out.old).2.1
      have f5 : World.cell? _ (⟨(ad.add (k * 4)).block, (ad.add (k * 4)).off + 2, none⟩) = some (.string t) := (HK.out _ S2.out.old).2.2.1
      have f6 : World.cell? _ (⟨(ad.add (k * 4)).block, (ad.add (k * 4)).off + 3, none⟩) = some (.slice ia l.length ic) := (HK.out _ S2.out.old).2.2.2
      cases bk with
      | false =>
        go_upto_region 4 with fail
        clear f0 f1 f2 f3 f4 f5 f6
        refine wp_region_held_drew (S := (fun w' => World.cell? w' ⟨w.heap.size, 0, none⟩ = some (.string name) ∧ World.cell? w' ⟨w.heap.size, 1, none⟩ = some (.slice (some ad) N c) ∧ World.cell? w' ⟨w.heap.size, 2, none⟩ = some (.int .i64 auto) ∧ World.cell? w' (ad.add (k * 4)) = some (.int .i64 kd) ∧ World.cell? w' (⟨(ad.add (k * 4)).block, (ad.add (k * 4)).off + 1, none⟩) = some (.int .i64 n) ∧ World.cell? w' (⟨(ad.add (k * 4)).block, (ad.add (k * 4)).off + 2, none⟩) = some (.string t) ∧ World.cell? w' (⟨(ad.add (k * 4)).block, (ad.add (k * 4)).off + 3, none⟩) = some (.slice ia l.length ic))) (by kernel_rfl) ⟨Bag.cell_at S2.out 0 rfl 0 rfl, Bag.cell_at S2.out 0 rfl 1 rfl, Bag.cell_at S2.out 0 rfl 2 rfl, (HK.out _ S2.out.old).1, (HK.out _ S2.out.old).2.1, (HK.out _ S2.out.old).2.2.1, (HK.out _ S2.out.old).2.2.2⟩ (fun hS => ?_)
        have S3 := Lib.hid (show Sl.Sep w _ [L4.boxR w.heap.size 26 #[.string name, .slice (some ad) N c, .int .i64 auto]] from Bag.drew1 S2.out)
        clear S2
        generalize World.drew _ = w1 at hS S3 ⊢
        refine tk 0 rfl ?_
        try simp only [zp0, zp1, zp2, zp3, zp4]
        refine tk 1 rfl ?_
        try simp only [zp0, zp1, zp2, zp3, zp4]
        refine tk 2 rfl ?_
        try simp only [zp0, zp1, zp2, zp3, zp4]
        refine tk 3 rfl ?_
        try simp only [zp0, zp1, zp2, zp3, zp4]
        refine tk 4 rfl ?_
        try simp only [zp0, zp1, zp2, zp3, zp4]
        refine tk 5 rfl ?_
        try simp only [zp0, zp1, zp2, zp3, zp4]
        refine Reg.one_op (i := 6) rfl (by kernel_rfl) (fun K hK => ?_)
        go_simp
        go_at_call 64
        refine (HIK.out _).mono ?_
        rintro e w2 ⟨rfl, hb⟩
        have S4 := Lib.hid (show Sl.Sep w _ [L4.boxR w.heap.size 26 #[.string name, .slice (some ad) N c, .int .i64 auto]] from S3.out.keep hb)
        clear S3
        clear hb
        go_wp2_with fail
        refine hK.out _ _ ⟨Bag.cell_at S4.out 0 rfl 0 rfl, Bag.cell_at S4.out 0 rfl 1 rfl, Bag.cell_at S4.out 0 rfl 2 rfl, (HK.out _ S4.out.old).1, (HK.out _ S4.out.old).2.1, (HK.out _ S4.out.old).2.2.1, (HK.out _ S4.out.old).2.2.2⟩ (fun hS => ?_)
        clear hK K
        try simp only [zp0, zp1, zp2, zp3, zp4]
        refine tk 7 rfl ?_
        try simp only [zp0, zp1, zp2, zp3, zp4]
        refine tk 8 rfl ?_
        try simp only [zp0, zp1, zp2, zp3, zp4]
        refine sk 9 rfl ?_
        try simp only [zp0, zp1, zp2, zp3, zp4]
        refine sk 10 rfl ?_
        try simp only [zp0, zp1, zp2, zp3, zp4]
        refine sk 11 rfl ?_
        try simp only [zp0, zp1, zp2, zp3, zp4]
        refine sk 12 rfl ?_
        try simp only [zp0, zp1, zp2, zp3, zp4]
        refine sk 13 rfl ?_
        try simp only [zp0, zp1, zp2, zp3, zp4]
        refine sk 14 rfl ?_
        try simp only [zp0, zp1, zp2, zp3, zp4]
        refine Reg.skip_one (i := 15) rfl (by kernel_rfl) (by rfl) (by assumption) ?_
        try simp only [zp0, zp1, zp2, zp3, zp4]
        refine sk 16 rfl ?_
        try simp only [zp0, zp1, zp2, zp3, zp4]
        refine tk 17 rfl ?_
        try simp only [zp0, zp1, zp2, zp3, zp4]
        refine tk 18 rfl ?_
        try simp only [zp0, zp1, zp2, zp3, zp4]
        refine sk 19 rfl ?_
        try simp only [zp0, zp1, zp2, zp3, zp4]
        refine sk 20 rfl ?_
        try simp only [zp0, zp1, zp2, zp3, zp4]
        refine sk 21 rfl ?_
        try simp only [zp0, zp1, zp2, zp3, zp4]
        refine sk 22 rfl ?_
        try simp only [zp0, zp1, zp2, zp3, zp4]
        refine sk 23 rfl ?_
        try simp only [zp0, zp1, zp2, zp3, zp4]
        refine sk 24 rfl ?_
        try simp only [zp0, zp1, zp2, zp3, zp4]
        refine sk 25 rfl ?_
        try simp only [zp0, zp1, zp2, zp3, zp4]
        refine sk 26 rfl ?_
        try simp only [zp0, zp1, zp2, zp3, zp4]
        refine sk 27 rfl ?_
        try simp only [zp0, zp1, zp2, zp3, zp4]
        refine sk 28 rfl ?_
        try simp only [zp0, zp1, zp2, zp3, zp4]
        refine sk 29 rfl ?_
        try simp only [zp0, zp1, zp2, zp3, zp4]
        refine sk 30 rfl ?_
        try simp only [zp0, zp1, zp2, zp3, zp4]
        refine sk 31 rfl ?_
        try simp only [zp0, zp1, zp2, zp3, zp4]
        refine sk 32 rfl ?_
        try simp only [zp0, zp1, zp2, zp3, zp4]
        refine sk 33 rfl ?_
        try simp only [zp0, zp1, zp2, zp3, zp4]
        refine sk 34 rfl ?_
        try simp only [zp0, zp1, zp2, zp3, zp4]
        refine Reg.skip_one (i := 35) rfl (by kernel_rfl) (by rfl) (by assumption) ?_
        try simp only [zp0, zp1, zp2, zp3, zp4]
        refine sk 36 rfl ?_
        try simp only [zp0, zp1, zp2, zp3, zp4]
        refine sk 37 rfl ?_
        try simp only [zp0, zp1, zp2, zp3, zp4]
        refine tk 38 rfl ?_
        try simp only [zp0, zp1, zp2, zp3, zp4]
        refine wpAnyH_done (by kernel_rfl) ?_ _
        have f0 : World.cell? _ ⟨w.heap.size, 0, none⟩ = some (.string name) := Bag.cell_at S4.out 0 rfl 0 rfl
        have f1 : World.cell? _ ⟨w.heap.size, 1, none⟩ = some (.slice (some ad) N c) := Bag.cell_at S4.out 0 rfl 1 rfl
        have f2 : World.cell? _ ⟨w.heap.size, 2, none⟩ = some (.int .i64 auto) := Bag.cell_at S4.out 0 rfl 2 rfl
        have f3 : World.cell? _ (ad.add (k * 4)) = some (.int .i64 kd) := (HK.out _ S4.out.old).1
        have f4 : World.cell? _ (⟨(ad.add (k * 4)).block, (ad.add (k * 4)).off + 1, none⟩) = some (.int .i64 n) := (HK.out _ S4.out.old).2.1
        have f5 : World.cell? _ (⟨(ad.add (k * 4)).block, (ad.add (k * 4)).off + 2, none⟩) = some (.string t) := (HK.out _ S4.out.old).2.2.1
        have f6 : World.cell? _ (⟨(ad.add (k * 4)).block, (ad.add (k * 4)).off + 3, none⟩) = some (.slice ia l.length ic) := (HK.out _ S4.out.old).2.2.2
        have HNO := Lib.hid (show isI (conI xs) = false from isI_no k hci (by rw [okIx_at HC.out]; dsimp only; rw [HBK.out]; rfl))
        go_wp2_with fail
        go_ret
        exact ⟨by unfold isS; rw [HNO.out]; rfl, S4.out.old⟩
      | true =>
        cases br with
        | false =>
          go_upto_region 4 with fail
          clear f0 f1 f2 f3 f4 f5 f6
          refine wp_region_held_drew (S := (fun w' => World.cell? w' ⟨w.heap.size, 0, none⟩ = some (.string name) ∧ World.cell? w' ⟨w.heap.size, 1, none⟩ = some (.slice (some ad) N c) ∧ World.cell? w' ⟨w.heap.size, 2, none⟩ = some (.int .i64 auto) ∧ World.cell? w' (ad.add (k * 4)) = some (.int .i64 kd) ∧ World.cell? w' (⟨(ad.add (k * 4)).block, (ad.add (k * 4)).off + 1, none⟩) = some (.int .i64 n) ∧ World.cell? w' (⟨(ad.add (k * 4)).block, (ad.add (k * 4)).off + 2, none⟩) = some (.string t) ∧ World.cell? w' (⟨(ad.add (k * 4)).block, (ad.add (k * 4)).off + 3, none⟩) = some (.slice ia l.length ic))) (by kernel_rfl) ⟨Bag.cell_at S2.out 0 rfl 0 rfl, Bag.cell_at S2.out 0 rfl 1 rfl, Bag.cell_at S2.out 0 rfl 2 rfl, (HK.out _ S2.out.old).1, (HK.out _ S2.out.old).2.1, (HK.out _ S2.out.old).2.2.1, (HK.out _ S2.out.old).2.2.2⟩ (fun hS => ?_)
          have S3 := Lib.hid (show Sl.Sep w _ [L4.boxR w.heap.size 26 #[.string name, .slice (some ad) N c, .int .i64 auto]] from Bag.drew1 S2.out)
          clear S2
          generalize World.drew _ = w1 at hS S3 ⊢
          refine tk 0 rfl ?_
          try simp only [zp0, zp1, zp2, zp3, zp4]
          refine tk 1 rfl ?_
          try simp only [zp0, zp1, zp2, zp3, zp4]
          refine tk 2 rfl ?_
          try simp only [zp0, zp1, zp2, zp3, zp4]
          refine tk 3 rfl ?_
          try simp only [zp0, zp1, zp2, zp3, zp4]
          refine tk 4 rfl ?_
          try simp only [zp0, zp1, zp2, zp3, zp4]
          refine tk 5 rfl ?_
          try simp only [zp0, zp1, zp2, zp3, zp4]
          refine Reg.one_op (i := 6) rfl (by kernel_rfl) (fun K hK => ?_)
          go_simp
          go_at_call 64
          refine (HIK.out _).mono ?_
          rintro e w2 ⟨rfl, hb⟩
          have S4 := Lib.hid (show Sl.Sep w _ [L4.boxR w.heap.size 26 #[.string name, .slice (some ad) N c, .int .i64 auto]] from S3.out.keep hb)
          clear S3
          clear hb
          go_wp2_with fail
          refine hK.out _ _ ⟨Bag.cell_at S4.out 0 rfl 0 rfl, Bag.cell_at S4.out 0 rfl 1 rfl, Bag.cell_at S4.out 0 rfl 2 rfl, (HK.out _ S4.out.old).1, (HK.out _ S4.out.old).2.1, (HK.out _ S4.out.old).2.2.1, (HK.out _ S4.out.old).2.2.2⟩ (fun hS => ?_)
          clear hK K
          try simp only [zp0, zp1, zp2, zp3, zp4]
          refine tk 7 rfl ?_
          try simp only [zp0, zp1, zp2, zp3, zp4]
          refine tk 8 rfl ?_
          try simp only [zp0, zp1, zp2, zp3, zp4]
          refine tk 9 rfl ?_
          try simp only [zp0, zp1, zp2, zp3, zp4]
          refine tk 10 rfl ?_
          try simp only [zp0, zp1, zp2, zp3, zp4]
          refine tk 11 rfl ?_
          try simp only [zp0, zp1, zp2, zp3, zp4]
          refine tk 12 rfl ?_
          try simp only [zp0, zp1, zp2, zp3, zp4]
          refine tk 13 rfl ?_
          try simp only [zp0, zp1, zp2, zp3, zp4]
          refine tk 14 rfl ?_
          try simp only [zp0, zp1, zp2, zp3, zp4]
          refine Reg.one_op (i := 15) rfl (by kernel_rfl) (fun K hK => ?_)
          go_simp
          go_at_call 65
          refine (HIR.out _ S4.out.old).mono ?_
          rintro e w3 ⟨rfl, hb⟩
          have S5 := Lib.hid (show Sl.Sep w _ [L4.boxR w.heap.size 26 #[.string name, .slice (some ad) N c, .int .i64 auto]] from S4.out.keep hb)
          clear S4
          clear hb
          go_wp2_with fail
          refine hK.out _ _ ⟨Bag.cell_at S5.out 0 rfl 0 rfl, Bag.cell_at S5.out 0 rfl 1 rfl, Bag.cell_at S5.out 0 rfl 2 rfl, (HK.out _ S5.out.old).1, (HK.out _ S5.out.old).2.1, (HK.out _ S5.out.old).2.2.1, (HK.out _ S5.out.old).2.2.2⟩ (fun hS => ?_)
          clear hK K
          try simp only [zp0, zp1, zp2, zp3, zp4]
          refine tk 16 rfl ?_
          try simp only [zp0, zp1, zp2, zp3, zp4]
          refine tk 17 rfl ?_
          try simp only [zp0, zp1, zp2, zp3, zp4]
          refine tk 18 rfl ?_
          try simp only [zp0, zp1, zp2, zp3, zp4]
          refine sk 19 rfl ?_
          try simp only [zp0, zp1, zp2, zp3, zp4]
          refine sk 20 rfl ?_
          try simp only [zp0, zp1, zp2, zp3, zp4]
          refine sk 21 rfl ?_
          try simp only [zp0, zp1, zp2, zp3, zp4]
          refine sk 22 rfl ?_
          try simp only [zp0, zp1, zp2, zp3, zp4]
          refine sk 23 rfl ?_
          try simp only [zp0, zp1, zp2, zp3, zp4]
          refine sk 24 rfl ?_
          try simp only [zp0, zp1, zp2, zp3, zp4]
          refine sk 25 rfl ?_
          try simp only [zp0, zp1, zp2, zp3, zp4]
          refine sk 26 rfl ?_
          try simp only [zp0, zp1, zp2, zp3, zp4]
          refine sk 27 rfl ?_
          try simp only [zp0, zp1, zp2, zp3, zp4]
          refine sk 28 rfl ?_
          try simp only [zp0, zp1, zp2, zp3, zp4]
          refine sk 29 rfl ?_
          try simp only [zp0, zp1, zp2, zp3, zp4]
          refine sk 30 rfl ?_
          try simp only [zp0, zp1, zp2, zp3, zp4]
          refine sk 31 rfl ?_
          try simp only [zp0, zp1, zp2, zp3, zp4]
          refine sk 32 rfl ?_
          try simp only [zp0, zp1, zp2, zp3, zp4]
          refine sk 33 rfl ?_
          try simp only [zp0, zp1, zp2, zp3, zp4]
          refine sk 34 rfl ?_
          try simp only [zp0, zp1, zp2, zp3, zp4]
          refine Reg.skip_one (i := 35) rfl (by kernel_rfl) (by rfl) (by assumption) ?_
          try simp only [zp0, zp1, zp2, zp3, zp4]
          refine sk 36 rfl ?_
          try simp only [zp0, zp1, zp2, zp3, zp4]
          refine sk 37 rfl ?_
          try simp only [zp0, zp1, zp2, zp3, zp4]
          refine tk 38 rfl ?_
          try simp only [zp0, zp1, zp2, zp3, zp4]
          refine wpAnyH_done (by kernel_rfl) ?_ _
          have f0 : World.cell? _ ⟨w.heap.size, 0, none⟩ = some (.string name) := Bag.cell_at S5.out 0 rfl 0 rfl
          have f1 : World.cell? _ ⟨w.heap.size, 1, none⟩ = some (.slice (some ad) N c) := Bag.cell_at S5.out 0 rfl 1 rfl
          have f2 : World.cell? _ ⟨w.heap.size, 2, none⟩ = some (.int .i64 auto) := Bag.cell_at S5.out 0 rfl 2 rfl
          have f3 : World.cell? _ (ad.add (k * 4)) = some (.int .i64 kd) := (HK.out _ S5.out.old).1
          have f4 : World.cell? _ (⟨(ad.add (k * 4)).block, (ad.add (k * 4)).off + 1, none⟩) = some (.int .i64 n) := (HK.out _ S5.out.old).2.1
          have f5 : World.cell? _ (⟨(ad.add (k * 4)).block, (ad.add (k * 4)).off + 2, none⟩) = some (.string t) := (HK.out _ S5.out.old).2.2.1
          have f6 : World.cell? _ (⟨(ad.add (k * 4)).block, (ad.add (k * 4)).off + 3, none⟩) = some (.slice ia l.length ic) := (HK.out _ S5.out.old).2.2.2
          have HNO := Lib.hid (show isI (conI xs) = false from isI_no k hci (by rw [okIx_at HC.out]; dsimp only; rw [HBK.out, HBR.out]; rfl))
          go_wp2_with fail
          go_ret
          exact ⟨by unfold isS; rw [HNO.out]; rfl, S5.out.old⟩
        | true =>
          rcases Nat.eq_zero_or_pos k with hk0 | hk0
          · have hk1 : (0 < k) = False := by simp; omega
            have HZ := Lib.hid hk0
            clear hk0
            go_upto_region 4 with fail
            clear f0 f1 f2 f3 f4 f5 f6
            refine wp_region_held_drew (S := (fun w' => World.cell? w' ⟨w.heap.size, 0, none⟩ = some (.string name) ∧ World.cell? w' ⟨w.heap.size, 1, none⟩ = some (.slice (some ad) N c) ∧ World.cell? w' ⟨w.heap.size, 2, none⟩ = some (.int .i64 auto) ∧ World.cell? w' (ad.add (k * 4)) = some (.int .i64 kd) ∧ World.cell? w' (⟨(ad.add (k * 4)).block, (ad.add (k * 4)).off + 1, none⟩) = some (.int .i64 n) ∧ World.cell? w' (⟨(ad.add (k * 4)).block, (ad.add (k * 4)).off + 2, none⟩) = some (.string t) ∧ World.cell? w' (⟨(ad.add (k * 4)).block, (ad.add (k * 4)).off + 3, none⟩) = some (.slice ia l.length ic))) (by kernel_rfl) ⟨Bag.cell_at S2.out 0 rfl 0 rfl, Bag.cell_at S2.out 0 rfl 1 rfl, Bag.cell_at S2.out 0 rfl 2 rfl, (HK.out _ S2.out.old).1, (HK.out _ S2.out.old).2.1, (HK.out _ S2.out.old).2.2.1, (HK.out _ S2.out.old).2.2.2⟩ (fun hS => ?_)
            have S3 := Lib.hid (show Sl.Sep w _ [L4.boxR w.heap.size 26 #[.string name, .slice (some ad) N c, .int .i64 auto]] from Bag.drew1 S2.out)
            clear S2
            generalize World.drew _ = w1 at hS S3 ⊢
            refine tk 0 rfl ?_
            try simp only [zp0, zp1, zp2, zp3, zp4]
            refine tk 1 rfl ?_
            try simp only [zp0, zp1, zp2, zp3, zp4]
            refine tk 2 rfl ?_
            try simp only [zp0, zp1, zp2, zp3, zp4]
            refine tk 3 rfl ?_
            try simp only [zp0, zp1, zp2, zp3, zp4]
            refine tk 4 rfl ?_
            try simp only [zp0, zp1, zp2, zp3, zp4]
            refine tk 5 rfl ?_
            try simp only [zp0, zp1, zp2, zp3, zp4]
            refine Reg.one_op (i := 6) rfl (by kernel_rfl) (fun K hK => ?_)
            go_simp
            go_at_call 64
            refine (HIK.out _).mono ?_
            rintro e w2 ⟨rfl, hb⟩
            have S4 := Lib.hid (show Sl.Sep w _ [L4.boxR w.heap.size 26 #[.string name, .slice (some ad) N c, .int .i64 auto]] from S3.out.keep hb)
            clear S3
            clear hb
            go_wp2_with fail
            refine hK.out _ _ ⟨Bag.cell_at S4.out 0 rfl 0 rfl, Bag.cell_at S4.out 0 rfl 1 rfl, Bag.cell_at S4.out 0 rfl 2 rfl, (HK.out _ S4.out.old).1, (HK.out _ S4.out.old).2.1, (HK.out _ S4.out.old).2.2.1, (HK.out _ S4.out.old).2.2.2⟩ (fun hS => ?_)
            clear hK K
            try simp only [zp0, zp1, zp2, zp3, zp4]
            refine tk 7 rfl ?_
            try simp only [zp0, zp1, zp2, zp3, zp4]
            refine tk 8 rfl ?_
            try simp only [zp0, zp1, zp2, zp3, zp4]
            refine tk 9 rfl ?_
            try simp only [zp0, zp1, zp2, zp3, zp4]
            refine tk 10 rfl ?_
            try simp only [zp0, zp1, zp2, zp3, zp4]
            refine tk 11 rfl ?_
            try simp only [zp0, zp1, zp2, zp3, zp4]
            refine tk 12 rfl ?_
            try simp only [zp0, zp1, zp2, zp3, zp4]
            refine tk 13 rfl ?_
            try simp only [zp0, zp1, zp2, zp3, zp4]
            refine tk 14 rfl ?_
            try simp only [zp0, zp1, zp2, zp3, zp4]
            refine Reg.one_op (i := 15) rfl (by kernel_rfl) (fun K hK => ?_)
            go_simp
            go_at_call 65
            refine (HIR.out _ S4.out.old).mono ?_
            rintro e w3 ⟨rfl, hb⟩
            have S5 := Lib.hid (show Sl.Sep w _ [L4.boxR w.heap.size 26 #[.string name, .slice (some ad) N c, .int .i64 auto]] from S4.out.keep hb)
            clear S4
            clear hb
            go_wp2_with fail
            refine hK.out _ _ ⟨Bag.cell_at S5.out 0 rfl 0 rfl, Bag.cell_at S5.out 0 rfl 1 rfl, Bag.cell_at S5.out 0 rfl 2 rfl, (HK.out _ S5.out.old).1, (HK.out _ S5.out.old).2.1, (HK.out _ S5.out.old).2.2.1, (HK.out _ S5.out.old).2.2.2⟩ (fun hS => ?_)
            clear hK K
            try simp only [zp0, zp1, zp2, zp3, zp4]
            refine tk 16 rfl ?_
            try simp only [zp0, zp1, zp2, zp3, zp4]
            refine tk 17 rfl ?_
            try simp only [zp0, zp1, zp2, zp3, zp4]
            refine tk 18 rfl ?_
            try simp only [zp0, zp1, zp2, zp3, zp4]
            refine tk 19 rfl ?_
            try simp only [zp0, zp1, zp2, zp3, zp4]
            refine tk 20 rfl ?_
            try simp only [zp0, zp1, zp2, zp3, zp4]
            refine tk 21 rfl ?_
            try simp only [zp0, zp1, zp2, zp3, zp4]
            refine sk 22 rfl ?_
            try simp only [zp0, zp1, zp2, zp3, zp4]
            refine sk 23 rfl ?_
            try simp only [zp0, zp1, zp2, zp3, zp4]
            refine sk 24 rfl ?_
            try simp only [zp0, zp1, zp2, zp3, zp4]
            refine sk 25 rfl ?_
            try simp only [zp0, zp1, zp2, zp3, zp4]
            refine sk 26 rfl ?_
            try simp only [zp0, zp1, zp2, zp3, zp4]
            refine sk 27 rfl ?_
            try simp only [zp0, zp1, zp2, zp3, zp4]
            refine sk 28 rfl ?_
            try simp only [zp0, zp1, zp2, zp3, zp4]
            refine sk 29 rfl ?_
            try simp only [zp0, zp1, zp2, zp3, zp4]
            refine sk 30 rfl ?_
            try simp only [zp0, zp1, zp2, zp3, zp4]
            refine sk 31 rfl ?_
            try simp only [zp0, zp1, zp2, zp3, zp4]
            refine sk 32 rfl ?_
            try simp only [zp0, zp1, zp2, zp3, zp4]
            refine sk 33 rfl ?_
            try simp only [zp0, zp1, zp2, zp3, zp4]
            refine sk 34 rfl ?_
            try simp only [zp0, zp1, zp2, zp3, zp4]
            refine Reg.skip_one (i := 35) rfl (by kernel_rfl) (by rfl) (by assumption) ?_
            try simp only [zp0, zp1, zp2, zp3, zp4]
            refine sk 36 rfl ?_
            try simp only [zp0, zp1, zp2, zp3, zp4]
            refine tk 37 rfl ?_
            try simp only [zp0, zp1, zp2, zp3, zp4]
            refine tk 38 rfl ?_
            try simp only [zp0, zp1, zp2, zp3, zp4]
            refine wpAnyH_done (by kernel_rfl) ?_ _
            have f0 : World.cell? _ ⟨w.heap.size, 0, none⟩ = some (.string name) := Bag.cell_at S5.out 0 rfl 0 rfl
            have f1 : World.cell? _ ⟨w.heap.size, 1, none⟩ = some (.slice (some ad) N c) := Bag.cell_at S5.out 0 rfl 1 rfl
            have f2 : World.cell? _ ⟨w.heap.size, 2, none⟩ = some (.int .i64 auto) := Bag.cell_at S5.out 0 rfl 2 rfl
            have f3 : World.cell? _ (ad.add (k * 4)) = some (.int .i64 kd) := (HK.out _ S5.out.old).1
            have f4 : World.cell? _ (⟨(ad.add (k * 4)).block, (ad.add (k * 4)).off + 1, none⟩) = some (.int .i64 n) := (HK.out _ S5.out.old).2.1
            have f5 : World.cell? _ (⟨(ad.add (k * 4)).block, (ad.add (k * 4)).off + 2, none⟩) = some (.string t) := (HK.out _ S5.out.old).2.2.1
            have f6 : World.cell? _ (⟨(ad.add (k * 4)).block, (ad.add (k * 4)).off + 3, none⟩) = some (.slice ia l.length ic) := (HK.out _ S5.out.old).2.2.2
            go_wp2_with fail
            go_roundw
            case rel => exact ⟨k + 1, by omega, by go_num, And.intro (fun j h => by
              by_cases e : j < k
              · exact HA.out j e
              · obtain rfl : j = k := by omega
                exact by rw [okIx_at HC.out]; dsimp only; rw [HBK.out, HBR.out, HZ.out]; rfl) S5.out⟩
            case measure => simp [intOf]; omega
          · obtain ⟨m, hkm⟩ : ∃ m, k = m + 1 := ⟨k - 1, by omega⟩
            have hki : (k : Int) - 1 = (m : Int) := by omega
            have HKM := Lib.hid hkm
            have hm0 : m < xs.length := by omega
            have hmi : (m : Int) < (N : Int) := by omega
            have hmw : IntKind.i64.wrap (m : Int) = (m : Int) := IntWalk.i64_in _ ⟨by omega, by omega⟩
            clear hkm
            clear f0 f1 f2 f3 f4 f5 f6
            obtain ⟨ad_, x2, e_, hx2⟩ := readsI_some (HR.out _ S2.out.old) m hm0
            clear e_ ad_
            obtain ⟨⟨kd2, n2, t2⟩, ia2, ic2, l2⟩ := x2
            have HK2 := Lib.hid (fun w' (h : Below w.heap.size w w') => readsI_at (HR.out _ h) m _ hx2)
            try dsimp only at HK2
            have HC2 := Lib.hid (show (conI xs)[m]? = some (⟨⟨kd2, n2, t2⟩, l2⟩ : It) from con_of hx2)
            have HFI2 := Lib.hid (fit_at HF.out hx2)
            clear hx2
            obtain ⟨cv, hcv⟩ : ∃ b, cmpK ⟨kd2, n2, t2⟩ ⟨kd, n, t⟩ = b := ⟨_, rfl⟩
            have HCMP := fun w => L4.specCompareKeys_any ⟨kd2, n2, t2⟩ ⟨kd, n, t⟩ (by have : t2.size ≤ 1099511627776 := HFI2.out.text; show t2.size ≤ _; omega) (by have : t.size ≤ 1099511627776 := HFI.out.text; show t.size ≤ _; omega) w
            rw [hcv] at HCMP
            replace HCMP := Lib.hid HCMP
            have HCV := Lib.hid hcv
            clear hcv
            have f0 : World.cell? _ ⟨w.heap.size, 0, none⟩ = some (.string name) := Bag.cell_at S2.out 0 rfl 0 rfl
            have f1 : World.cell? _ ⟨w.heap.size, 1, none⟩ = some (.slice (some ad) N c) := Bag.cell_at S2.out 0 rfl 1 rfl
            have f2 : World.cell? _ ⟨w.heap.size, 2, none⟩ = some (.int .i64 auto) := Bag.cell_at S2.out 0 rfl 2 rfl
            have f3 : World.cell? _ (ad.add (k * 4)) = some (.int .i64 kd) := (HK.out _ S2.out.old).1
            have f4 : World.cell? _ (⟨(ad.add (k * 4)).block, (ad.add (k * 4)).off + 1, none⟩) = some (.int .i64 n) := (HK.out _ S2.out.old).2.1
            have f5 : World.cell? _ (⟨(ad.add (k * 4)).block, (ad.add (k * 4)).off + 2, none⟩) = some (.string t) := (HK.out _ S2.out.old).2.2.1
            have f6 : World.cell? _ (⟨(ad.add (k * 4)).block, (ad.add (k * 4)).off + 3, none⟩) = some (.slice ia l.length ic) := (HK.out _ S2.out.old).2.2.2
            have f7 : World.cell? _ (ad.add (m * 4)) = some (.int .i64 kd2) := (HK2.out _ S2.out.old).1
            have f8 : World.cell? _ (⟨(ad.add (m * 4)).block, (ad.add (m * 4)).off + 1, none⟩) = some (.int .i64 n2) := (HK2.out _ S2.out.old).2.1
            have f9 : World.cell? _ (⟨(ad.add (m * 4)).block, (ad.add (m * 4)).off + 2, none⟩) = some (.string t2) := (HK2.out _ S2.out.old).2.2.1
            have f10 : World.cell? _ (⟨(ad.add (m * 4)).block, (ad.add (m * 4)).off + 3, none⟩) = some (.slice ia2 l2.length ic2) := (HK2.out _ S2.out.old).2.2.2
            by_cases hc : cv < 0
            · have hc2 : ¬ 0 ≤ cv := by omega
              go_upto_region 4 with fail
              clear f0 f1 f2 f3 f4 f5 f6 f7 f8 f9 f10
              refine wp_region_held_drew (S := (fun w' => World.cell? w' ⟨w.heap.size, 0, none⟩ = some (.string name) ∧ World.cell? w' ⟨w.heap.size, 1, none⟩ = some (.slice (some ad) N c) ∧ World.cell? w' ⟨w.heap.size, 2, none⟩ = some (.int .i64 auto) ∧ World.cell? w' (ad.add (k * 4)) = some (.int .i64 kd) ∧ World.cell? w' (⟨(ad.add (k * 4)).block, (ad.add (k * 4)).off + 1, none⟩) = some (.int .i64 n) ∧ World.cell? w' (⟨(ad.add (k * 4)).block, (ad.add (k * 4)).off + 2, none⟩) = some (.string t) ∧ World.cell? w' (⟨(ad.add (k * 4)).block, (ad.add (k * 4)).off + 3, none⟩) = some (.slice ia l.length ic) ∧ World.cell? w' (ad.add (m * 4)) = some (.int .i64 kd2) ∧ World.cell? w' (⟨(ad.add (m * 4)).block, (ad.add (m * 4)).off + 1, none⟩) = some (.int .i64 n2) ∧ World.cell? w' (⟨(ad.add (m * 4)).block, (ad.add (m * 4)).off + 2, none⟩) = some (.string t2) ∧ World.cell? w' (⟨(ad.add (m * 4)).block, (ad.add (m * 4)).off + 3, none⟩) = some (.slice ia2 l2.length ic2))) (by kernel_rfl) ⟨Bag.cell_at S2.out 0 rfl 0 rfl, Bag.cell_at S2.out 0 rfl 1 rfl, Bag.cell_at S2.out 0 rfl 2 rfl, (HK.out _ S2.out.old).1, (HK.out _ S2.out.old).2.1, (HK.out _ S2.out.old).2.2.1, (HK.out _ S2.out.old).2.2.2, (HK2.out _ S2.out.old).1, (HK2.out _ S2.out.old).2.1, (HK2.out _ S2.out.old).2.2.1, (HK2.out _ S2.out.old).2.2.2⟩ (fun hS => ?_)
              have S3 := Lib.hid (show Sl.Sep w _ [L4.boxR w.heap.size 26 #[.string name, .slice (some ad) N c, .int .i64 auto]] from Bag.drew1 S2.out)
              clear S2
              generalize World.drew _ = w1 at hS S3 ⊢
              refine tk 0 rfl ?_
              try simp only [zp0, zp1, zp2, zp3, zp4]
              refine tk 1 rfl ?_
              try simp only [zp0, zp1, zp2, zp3, zp4]
              refine tk 2 rfl ?_
              try simp only [zp0, zp1, zp2, zp3, zp4]
              refine tk 3 rfl ?_
              try simp only [zp0, zp1, zp2, zp3, zp4]
              refine tk 4 rfl ?_
              try simp only [zp0, zp1, zp2, zp3, zp4]
              refine tk 5 rfl ?_
              try simp only [zp0, zp1, zp2, zp3, zp4]
              refine Reg.one_op (i := 6) rfl (by kernel_rfl) (fun K hK => ?_)
              go_simp
              go_at_call 64
              refine (HIK.out _).mono ?_
              rintro e w2 ⟨rfl, hb⟩
              have S4 := Lib.hid (show Sl.Sep w _ [L4.boxR w.heap.size 26 #[.string name, .slice (some ad) N c, .int .i64 auto]] from S3.out.keep hb)
              clear S3
              clear hb
              go_wp2_with fail
              refine hK.out _ _ ⟨Bag.cell_at S4.out 0 rfl 0 rfl, Bag.cell_at S4.out 0 rfl 1 rfl, Bag.cell_at S4.out 0 rfl 2 rfl, (HK.out _ S4.out.old).1, (HK.out _ S4.out.old).2.1, (HK.out _ S4.out.old).2.2.1, (HK.out _ S4.out.old).2.2.2, (HK2.out _ S4.out.old).1, (HK2.out _ S4.out.old).2.1, (HK2.out _ S4.out.old).2.2.1, (HK2.out _ S4.out.old).2.2.2⟩ (fun hS => ?_)
              clear hK K
              try simp only [zp0, zp1, zp2, zp3, zp4]
              refine tk 7 rfl ?_
              try simp only [zp0, zp1, zp2, zp3, zp4]
              refine tk 8 rfl ?_
              try simp only [zp0, zp1, zp2, zp3, zp4]
              refine tk 9 rfl ?_
              try simp only [zp0, zp1, zp2, zp3, zp4]
              refine tk 10 rfl ?_
              try simp only [zp0, zp1, zp2, zp3, zp4]
              refine tk 11 rfl ?_
              try simp only [zp0, zp1, zp2, zp3, zp4]
              refine tk 12 rfl ?_
              try simp only [zp0, zp1, zp2, zp3, zp4]
              refine tk 13 rfl ?_
              try simp only [zp0, zp1, zp2, zp3, zp4]
              refine tk 14 rfl ?_
              try simp only [zp0, zp1, zp2, zp3, zp4]
              refine Reg.one_op (i := 15) rfl (by kernel_rfl) (fun K hK => ?_)
              go_simp
              go_at_call 65
              refine (HIR.out _ S4.out.old).mono ?_
              rintro e w3 ⟨rfl, hb⟩
              have S5 := Lib.hid (show Sl.Sep w _ [L4.boxR w.heap.size 26 #[.string name, .slice (some ad) N c, .int .i64 auto]] from S4.out.keep hb)
              clear S4
              clear hb
              go_wp2_with fail
              refine hK.out _ _ ⟨Bag.cell_at S5.out 0 rfl 0 rfl, Bag.cell_at S5.out 0 rfl 1 rfl, Bag.cell_at S5.out 0 rfl 2 rfl, (HK.out _ S5.out.old).1, (HK.out _ S5.out.old).2.1, (HK.out _ S5.out.old).2.2.1, (HK.out _ S5.out.old).2.2.2, (HK2.out _ S5.out.old).1, (HK2.out _ S5.out.old).2.1, (HK2.out _ S5.out.old).2.2.1, (HK2.out _ S5.out.old).2.2.2⟩ (fun hS => ?_)
              clear hK K
              try simp only [zp0, zp1, zp2, zp3, zp4]
              refine tk 16 rfl ?_
              try simp only [zp0, zp1, zp2, zp3, zp4]
              refine tk 17 rfl ?_
              try simp only [zp0, zp1, zp2, zp3, zp4]
              refine tk 18 rfl ?_
              try simp only [zp0, zp1, zp2, zp3, zp4]
              refine tk 19 rfl ?_
              try simp only [zp0, zp1, zp2, zp3, zp4]
              refine tk 20 rfl ?_
              try simp only [zp0, zp1, zp2, zp3, zp4]
              refine tk 21 rfl ?_
              try simp only [zp0, zp1, zp2, zp3, zp4]
              refine tk 22 rfl ?_
              try simp only [zp0, zp1, zp2, zp3, zp4]
              refine tk 23 rfl ?_
              try simp only [zp0, zp1, zp2, zp3, zp4]
              refine tk 24 rfl ?_
              try simp only [zp0, zp1, zp2, zp3, zp4]
              refine tk 25 rfl ?_
              try simp only [zp0, zp1, zp2, zp3, zp4]
              refine tk 26 rfl ?_
              try simp only [zp0, zp1, zp2, zp3, zp4]
              refine tk 27 rfl ?_
              try simp only [zp0, zp1, zp2, zp3, zp4]
              refine tk 28 rfl ?_
              try simp only [zp0, zp1, zp2, zp3, zp4]
              refine tk 29 rfl ?_
              try simp only [zp0, zp1, zp2, zp3, zp4]
              refine tk 30 rfl ?_
              try simp only [zp0, zp1, zp2, zp3, zp4]
              refine tk 31 rfl ?_
              try simp only [zp0, zp1, zp2, zp3, zp4]
              refine tk 32 rfl ?_
              try simp only [zp0, zp1, zp2, zp3, zp4]
              refine tk 33 rfl ?_
              try simp only [zp0, zp1, zp2, zp3, zp4]
              refine tk 34 rfl ?_
              try simp only [zp0, zp1, zp2, zp3, zp4]
              refine Reg.one_op (i := 35) rfl (by kernel_rfl) (fun K hK => ?_)
              go_simp
              go_at_call 68
              refine (HCMP.out _).mono ?_
              rintro e w4 ⟨rfl, hb⟩
              have S6 := Lib.hid (show Sl.Sep w _ [L4.boxR w.heap.size 26 #[.string name, .slice (some ad) N c, .int .i64 auto]] from S5.out.keep hb)
              clear S5
              clear hb
              go_wp2_with fail
              refine hK.out _ _ ⟨Bag.cell_at S6.out 0 rfl 0 rfl, Bag.cell_at S6.out 0 rfl 1 rfl, Bag.cell_at S6.out 0 rfl 2 rfl, (HK.out _ S6.out.old).1, (HK.out _ S6.out.old).2.1, (HK.out _ S6.out.old).2.2.1, (HK.out _ S6.out.old).2.2.2, (HK2.out _ S6.out.old).1, (HK2.out _ S6.out.old).2.1, (HK2.out _ S6.out.old).2.2.1, (HK2.out _ S6.out.old).2.2.2⟩ (fun hS => ?_)
              clear hK K
              try simp only [zp0, zp1, zp2, zp3, zp4]
              refine tk 36 rfl ?_
              try simp only [zp0, zp1, zp2, zp3, zp4]
              refine tk 37 rfl ?_
              try simp only [zp0, zp1, zp2, zp3, zp4]
              refine tk 38 rfl ?_
              try simp only [zp0, zp1, zp2, zp3, zp4]
              refine wpAnyH_done (by kernel_rfl) ?_ _
              have f0 : World.cell? _ ⟨w.heap.size, 0, none⟩ = some (.string name) := Bag.cell_at S6.out 0 rfl 0 rfl
              have f1 : World.cell? _ ⟨w.heap.size, 1, none⟩ = some (.slice (some ad) N c) := Bag.cell_at S6.out 0 rfl 1 rfl
              have f2 : World.cell? _ ⟨w.heap.size, 2, none⟩ = some (.int .i64 auto) := Bag.cell_at S6.out 0 rfl 2 rfl
              have f3 : World.cell? _ (ad.add (k * 4)) = some (.int .i64 kd) := (HK.out _ S6.out.old).1
              have f4 : World.cell? _ (⟨(ad.add (k * 4)).block, (ad.add (k * 4)).off + 1, none⟩) = some (.int .i64 n) := (HK.out _ S6.out.old).2.1
              have f5 : World.cell? _ (⟨(ad.add (k * 4)).block, (ad.add (k * 4)).off + 2, none⟩) = some (.string t) := (HK.out _ S6.out.old).2.2.1
              have f6 : World.cell? _ (⟨(ad.add (k * 4)).block, (ad.add (k * 4)).off + 3, none⟩) = some (.slice ia l.length ic) := (HK.out _ S6.out.old).2.2.2
              have f7 : World.cell? _ (ad.add (m * 4)) = some (.int .i64 kd2) := (HK2.out _ S6.out.old).1
              have f8 : World.cell? _ (⟨(ad.add (m * 4)).block, (ad.add (m * 4)).off + 1, none⟩) = some (.int .i64 n2) := (HK2.out _ S6.out.old).2.1
              have f9 : World.cell? _ (⟨(ad.add (m * 4)).block, (ad.add (m * 4)).off + 2, none⟩) = some (.string t2) := (HK2.out _ S6.out.old).2.2.1
              have f10 : World.cell? _ (⟨(ad.add (m * 4)).block, (ad.add (m * 4)).off + 3, none⟩) = some (.slice ia2 l2.length ic2) := (HK2.out _ S6.out.old).2.2.2
              go_wp2_with fail
              go_roundw
              case rel => exact ⟨k + 1, by omega, by go_num, And.intro (fun j h => by
                by_cases e : j < k
                · exact HA.out j e
                · obtain rfl : j = k := by omega
                  rw [okIx_at HC.out, HKM.out, behind_at HC2.out]; dsimp only; rw [HBK.out, HBR.out, HCV.out]; simpa using hc) S6.out⟩
              case measure => simp [intOf]; omega
            · have hc2 : 0 ≤ cv := by omega
              go_upto_region 4 with fail
              clear f0 f1 f2 f3 f4 f5 f6 f7 f8 f9 f10
              refine wp_region_held_drew (S := (fun w' => World.cell? w' ⟨w.heap.size, 0, none⟩ = some (.string name) ∧ World.cell? w' ⟨w.heap.size, 1, none⟩ = some (.slice (some ad) N c) ∧ World.cell? w' ⟨w.heap.size, 2, none⟩ = some (.int .i64 auto) ∧ World.cell? w' (ad.add (k * 4)) = some (.int .i64 kd) ∧ World.cell? w' (⟨(ad.add (k * 4)).block, (ad.add (k * 4)).off + 1, none⟩) = some (.int .i64 n) ∧ World.cell? w' (⟨(ad.add (k * 4)).block, (ad.add (k * 4)).off + 2, none⟩) = some (.string t) ∧ World.cell? w' (⟨(ad.add (k * 4)).block, (ad.add (k * 4)).off + 3, none⟩) = some (.slice ia l.length ic) ∧ World.cell? w' (ad.add (m * 4)) = some (.int .i64 kd2) ∧ World.cell? w' (⟨(ad.add (m * 4)).block, (ad.add (m * 4)).off + 1, none⟩) = some (.int .i64 n2) ∧ World.cell? w' (⟨(ad.add (m * 4)).block, (ad.add (m * 4)).off + 2, none⟩) = some (.string t2) ∧ World.cell? w' (⟨(ad.add (m * 4)).block, (ad.add (m * 4)).off + 3, none⟩) = some (.slice ia2 l2.length ic2))) (by kernel_rfl) ⟨Bag.cell_at S2.out 0 rfl 0 rfl, Bag.cell_at S2.out 0 rfl 1 rfl, Bag.cell_at S2.out 0 rfl 2 rfl, (HK.out _ S2.out.old).1, (HK.out _ S2.out.old).2.1, (HK.out _ S2.out.old).2.2.1, (HK.out _ S2.out.old).2.2.2, (HK2.out _ S2.out.old).1, (HK2.out _ S2.out.old).2.1, (HK2.out _ S2.out.old).2.2.1, (HK2.out _ S2.out.old).2.2.2⟩ (fun hS => ?_)
              have S3 := Lib.hid (show Sl.Sep w _ [L4.boxR w.heap.size 26 #[.string name, .slice (some ad) N c, .int .i64 auto]] from Bag.drew1 S2.out)
              clear S2
              generalize World.drew _ = w1 at hS S3 ⊢
              refine tk 0 rfl ?_
              try simp only [zp0, zp1, zp2, zp3, zp4]
              refine tk 1 rfl ?_
              try simp only [zp0, zp1, zp2, zp3, zp4]
              refine tk 2 rfl ?_
              try simp only [zp0, zp1, zp2, zp3, zp4]
              refine tk 3 rfl ?_
              try simp only [zp0, zp1, zp2, zp3, zp4]
              refine tk 4 rfl ?_
              try simp only [zp0, zp1, zp2, zp3, zp4]
              refine tk 5 rfl ?_
              try simp only [zp0, zp1, zp2, zp3, zp4]
              refine Reg.one_op (i := 6) rfl (by kernel_rfl) (fun K hK => ?_)
              go_simp
              go_at_call 64
              refine (HIK.out _).mono ?_
              rintro e w2 ⟨rfl, hb⟩
              have S4 := Lib.hid (show Sl.Sep w _ [L4.boxR w.heap.size 26 #[.string name, .slice (some ad) N c, .int .i64 auto]] from S3.out.keep hb)
              clear S3
              clear hb
              go_wp2_with fail
              refine hK.out _ _ ⟨Bag.cell_at S4.out 0 rfl 0 rfl, Bag.cell_at S4.out 0 rfl 1 rfl, Bag.cell_at S4.out 0 rfl 2 rfl, (HK.out _ S4.out.old).1, (HK.out _ S4.out.old).2.1, (HK.out _ S4.out.old).2.2.1, (HK.out _ S4.out.old).2.2.2, (HK2.out _ S4.out.old).1, (HK2.out _ S4.out.old).2.1, (HK2.out _ S4.out.old).2.2.1, (HK2.out _ S4.out.old).2.2.2⟩ (fun hS => ?_)
              clear hK K
              try simp only [zp0, zp1, zp2, zp3, zp4]
              refine tk 7 rfl ?_
              try simp only [zp0, zp1, zp2, zp3, zp4]
              refine tk 8 rfl ?_
              try simp only [zp0, zp1, zp2, zp3, zp4]
              refine tk 9 rfl ?_
              try simp only [zp0, zp1, zp2, zp3, zp4]
              refine tk 10 rfl ?_
              try simp only [zp0, zp1, zp2, zp3, zp4]
              refine tk 11 rfl ?_
              try simp only [zp0, zp1, zp2, zp3, zp4]
              refine tk 12 rfl ?_
              try simp only [zp0, zp1, zp2, zp3, zp4]
              refine tk 13 rfl ?_
              try simp only [zp0, zp1, zp2, zp3, zp4]
              refine tk 14 rfl ?_
              try simp only [zp0, zp1, zp2, zp3, zp4]
              refine Reg.one_op (i := 15) rfl (by kernel_rfl) (fun K hK => ?_)
              go_simp
              go_at_call 65
              refine (HIR.out _ S4.out.old).mono ?_
              rintro e w3 ⟨rfl, hb⟩
              have S5 := Lib.hid (show Sl.Sep w _ [L4.boxR w.heap.size 26 #[.string name, .slice (some ad) N c, .int .i64 auto]] from S4.out.keep hb)
              clear S4
              clear hb
              go_wp2_with fail
              refine hK.out _ _ ⟨Bag.cell_at S5.out 0 rfl 0 rfl, Bag.cell_at S5.out 0 rfl 1 rfl, Bag.cell_at S5.out 0 rfl 2 rfl, (HK.out _ S5.out.old).1, (HK.out _ S5.out.old).2.1, (HK.out _ S5.out.old).2.2.1, (HK.out _ S5.out.old).2.2.2, (HK2.out _ S5.out.old).1, (HK2.out _ S5.out.old).2.1, (HK2.out _ S5.out.old).2.2.1, (HK2.out _ S5.out.old).2.2.2⟩ (fun hS => ?_)
              clear hK K
              try simp only [zp0, zp1, zp2, zp3, zp4]
              refine tk 16 rfl ?_
              try simp only [zp0, zp1, zp2, zp3, zp4]
              refine tk 17 rfl ?_
              try simp only [zp0, zp1, zp2, zp3, zp4]
              refine tk 18 rfl ?_
              try simp only [zp0, zp1, zp2, zp3, zp4]
              refine tk 19 rfl ?_
              try simp only [zp0, zp1, zp2, zp3, zp4]
              refine tk 20 rfl ?_
              try simp only [zp0, zp1, zp2, zp3, zp4]
              refine tk 21 rfl ?_
              try simp only [zp0, zp1, zp2, zp3, zp4]
              refine tk 22 rfl ?_
              try simp only [zp0, zp1, zp2, zp3, zp4]
              refine tk 23 rfl ?_
              try simp only [zp0, zp1, zp2, zp3, zp4]
              refine tk 24 rfl ?_
              try simp only [zp0, zp1, zp2, zp3, zp4]
              refine tk 25 rfl ?_
              try simp only [zp0, zp1, zp2, zp3, zp4]
              refine tk 26 rfl ?_
              try simp only [zp0, zp1, zp2, zp3, zp4]
              refine tk 27 rfl ?_
              try simp only [zp0, zp1, zp2, zp3, zp4]
              refine tk 28 rfl ?_
              try simp only [zp0, zp1, zp2, zp3, zp4]
              refine tk 29 rfl ?_
              try simp only [zp0, zp1, zp2, zp3, zp4]
              refine tk 30 rfl ?_
              try simp only [zp0, zp1, zp2, zp3, zp4]
              refine tk 31 rfl ?_
              try simp only [zp0, zp1, zp2, zp3, zp4]
              refine tk 32 rfl ?_
              try simp only [zp0, zp1, zp2, zp3, zp4]
              refine tk 33 rfl ?_
              try simp only [zp0, zp1, zp2, zp3, zp4]
              refine tk 34 rfl ?_
              try simp only [zp0, zp1, zp2, zp3, zp4]
              refine Reg.one_op (i := 35) rfl (by kernel_rfl) (fun K hK => ?_)
              go_simp
              go_at_call 68
              refine (HCMP.out _).mono ?_
              rintro e w4 ⟨rfl, hb⟩
              have S6 := Lib.hid (show Sl.Sep w _ [L4.boxR w.heap.size 26 #[.string name, .slice (some ad) N c, .int .i64 auto]] from S5.out.keep hb)
              clear S5
              clear hb
              go_wp2_with fail
              refine hK.out _ _ ⟨Bag.cell_at S6.out 0 rfl 0 rfl, Bag.cell_at S6.out 0 rfl 1 rfl, Bag.cell_at S6.out 0 rfl 2 rfl, (HK.out _ S6.out.old).1, (HK.out _ S6.out.old).2.1, (HK.out _ S6.out.old).2.2.1, (HK.out _ S6.out.old).2.2.2, (HK2.out _ S6.out.old).1, (HK2.out _ S6.out.old).2.1, (HK2.out _ S6.out.old).2.2.1, (HK2.out _ S6.out.old).2.2.2⟩ (fun hS => ?_)
              clear hK K
              try simp only [zp0, zp1, zp2, zp3, zp4]
              refine tk 36 rfl ?_
              try simp only [zp0, zp1, zp2, zp3, zp4]
              refine tk 37 rfl ?_
              try simp only [zp0, zp1, zp2, zp3, zp4]
              refine tk 38 rfl ?_
              try simp only [zp0, zp1, zp2, zp3, zp4]
              refine wpAnyH_done (by kernel_rfl) ?_ _
              have f0 : World.cell? _ ⟨w.heap.size, 0, none⟩ = some (.string name) := Bag.cell_at S6.out 0 rfl 0 rfl
              have f1 : World.cell? _ ⟨w.heap.size, 1, none⟩ = some (.slice (some ad) N c) := Bag.cell_at S6.out 0 rfl 1 rfl
              have f2 : World.cell? _ ⟨w.heap.size, 2, none⟩ = some (.int .i64 auto) := Bag.cell_at S6.out 0 rfl 2 rfl
              have f3 : World.cell? _ (ad.add (k * 4)) = some (.int .i64 kd) := (HK.out _ S6.out.old).1
              have f4 : World.cell? _ (⟨(ad.add (k * 4)).block, (ad.add (k * 4)).off + 1, none⟩) = some (.int .i64 n) := (HK.out _ S6.out.old).2.1
              have f5 : World.cell? _ (⟨(ad.add (k * 4)).block, (ad.add (k * 4)).off + 2, none⟩) = some (.string t) := (HK.out _ S6.out.old).2.2.1
              have f6 : World.cell? _ (⟨(ad.add (k * 4)).block, (ad.add (k * 4)).off + 3, none⟩) = some (.slice ia l.length ic) := (HK.out _ S6.out.old).2.2.2
              have f7 : World.cell? _ (ad.add (m * 4)) = some (.int .i64 kd2) := (HK2.out _ S6.out.old).1
              have f8 : World.cell? _ (⟨(ad.add (m * 4)).block, (ad.add (m * 4)).off + 1, none⟩) = some (.int .i64 n2) := (HK2.out _ S6.out.old).2.1
              have f9 : World.cell? _ (⟨(ad.add (m * 4)).block, (ad.add (m * 4)).off + 2, none⟩) = some (.string t2) := (HK2.out _ S6.out.old).2.2.1
              have f10 : World.cell? _ (⟨(ad.add (m * 4)).block, (ad.add (m * 4)).off + 3, none⟩) = some (.slice ia2 l2.length ic2) := (HK2.out _ S6.out.old).2.2.2
              have HNO := Lib.hid (show isI (conI xs) = false from isI_no k hci (by rw [okIx_at HC.out, HKM.out, behind_at HC2.out]; dsimp only; rw [HBK.out, HBR.out, HCV.out]; simpa using hc2))
              go_wp2_with fail
              go_ret
              exact ⟨by unfold isS; rw [HNO.out]; rfl, S6.out.old⟩
    · skip
      obtain rfl : k = N := by omega
      have HI := Lib.hid (isI_all (xs := conI xs) (fun i hi => HA.out i (by rw [conI_length] at hi; have := HN.out; omega)))
      obtain ⟨bn, hbn⟩ : ∃ b, isN name.data.toList = b := ⟨_, rfl⟩
      have HIN := fun w => L5.specIsName_any name HNM.out w
      rw [hbn] at HIN
      replace HIN := Lib.hid HIN
      obtain ⟨ba, hba⟩ : ∃ b, L1.inB auto 0 1000000 = b := ⟨_, rfl⟩
      have HIA := fun w => L1.l1In_any auto 0 1000000 w
      rw [hba] at HIA
      replace HIA := Lib.hid HIA
      have HE := Lib.hid (show isS ⟨name, conI xs, auto⟩ = (bn && (decide (k ≤ 16) && ba)) from by unfold isS; rw [HI.out, hbn, hba, conI_length, ← HN.out]; rfl)
      clear hbn hba
      have f0 : World.cell? _ ⟨w.heap.size, 0, none⟩ = some (.string name) := Bag.cell_at S2.out 0 rfl 0 rfl
      have f1 : World.cell? _ ⟨w.heap.size, 1, none⟩ = some (.slice a k c) := Bag.cell_at S2.out 0 rfl 1 rfl
      have f2 : World.cell? _ ⟨w.heap.size, 2, none⟩ = some (.int .i64 auto) := Bag.cell_at S2.out 0 rfl 2 rfl
      cases bn with
      | false =>
        go_wp2_with fail
        go_at_call 86
        refine (HIN.out _).mono ?_
        rintro e w1 ⟨rfl, rfl⟩
        go_wp2_with fail
        go_ret
        exact ⟨by rw [HE.out]; rfl, S2.out.old⟩
      | true =>
        go_wp2_with fail
        go_at_call 86
        refine (HIN.out _).mono ?_
        rintro e w1 ⟨rfl, rfl⟩
        by_cases h16 : (k : Int) ≤ 16
        · have h16' : k ≤ 16 := by omega
          go_wp2_with fail
          go_at_call 69
          refine (HIA.out _).mono ?_
          rintro e w2 ⟨rfl, rfl⟩
          go_wp2_with fail
          go_ret
          exact ⟨by rw [HE.out, decide_eq_true h16']; rfl, S2.out.old⟩
        · have h16' : ¬ k ≤ 16 := by omega
          go_wp2_with fail
          go_ret
          exact ⟨by rw [HE.out, decide_eq_false h16']; rfl, S2.out.old⟩
end Go.Proofs.Ytkfejjoehgipmaa.L6
