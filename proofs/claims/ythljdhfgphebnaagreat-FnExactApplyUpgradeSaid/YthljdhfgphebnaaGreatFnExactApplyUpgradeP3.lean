/-
  What the law FnExactApplyUpgrade needs, laid by my program lawpack.py, part 3: the texts L6Sb, L5Rd, L7Sa, L6Se, L7Sb, L7Sc, L7Sd, L8Sa, Vlg, RegA, VlStore, VlIndexDef, L8Ga, one behind the other; each begins with its own words.
-/
import Derived.Test.YthljdhfgphebnaaGreatFnExactApplyUpgradeP2
set_option linter.unusedSimpArgs false
set_option linter.unusedVariables false
set_option maxRecDepth 100000
set_option linter.unusedSimpArgs false
namespace Go.Proofs.YthljdhfgphebnaaGreat.L6
open L4 (K isK cmpK R inR encU)
open L5 (F isR isN cellsF encR eqR Small)
open Go.ChangeShapes Go.WideShapes Go.ChangeAt Go.RowKit Mem Sl Ex L2 Sv Bag

theorem con_of {xs : List LI} {k : Nat} {x : LI} (hx : xs[k]? = some x) : (conI xs)[k]? = some x.con := by unfold conI; rw [List.getElem?_map, hx]; rfl
set_option maxHeartbeats 8000000 in
theorem specIsStore_any (y : LS) (hf : FitS y.con) (w : World) (hr : RowsRd w w.heap.size y.rows) :
  Calls Tryz.prog 62 #[y.v] w fun e w' => e = .returned (.bool (isS y.con)) ∧ Below w.heap.size w w' := by
 obtain ⟨name, a, c, xs, auto⟩ := y
 have HR := Lib.hid (fun w' (h : Below w.heap.size w w') => LS.outer (hr.below h))
 have HX := Lib.hid (fun w' (h : Below w.heap.size w w') => (LS.inner (hr.below h)).more h.size)
 have HF := Lib.hid hf.items
 have HNM := Lib.hid hf.name
 have hl := hf.len
 simp only [LS.con, conI_length] at hl
 dsimp only [LS.con] at HR HX HF HNM
 try unfold LS.v LS.cells LS.con
 try dsimp only
 obtain ⟨N, hN⟩ : ∃ n, n = xs.length := ⟨_, rfl⟩
 rw [← hN] at hl ⊢
 have hl' : (N : Int) ≤ 1048576 := by omega
 have HN := Lib.hid hN
 clear hN hr hf
 have S1 := Lib.hid (show Sl.Sep w _ [_] from L4.push_box (Sl.Sep.start w) 70 #[.string name, .slice a N c, .int .i64 auto] (w.heap.size) (by simp))
 obtain ⟨wa, hwa⟩ : ∃ u, u = (w.alloc (.cells #[.string name, .slice a N c, .int .i64 auto] 70)) := ⟨_, rfl⟩
 rw [← hwa] at S1
 go_enter Tryz.func62, Tryz.ntmps62
 go_upto_region 1 with fail
 rw [← hwa]
 clear hwa
 go_wp2_with fail
 go_loopw [3] (fun i wr => ∃ k : Nat, k ≤ N ∧ i = .int .i64 k ∧ Hid ((∀ j, j < k → okIx (conI xs) j = true) ∧ Sl.Sep w wr [L4.boxR w.heap.size 70 #[.string name, .slice a N c, .int .i64 auto]])) (fun i _ => N - (intOf i).toNat)
 case atStart => exact ⟨0, Nat.zero_le _, rfl, And.intro (fun j h => absurd h (by omega)) S1.out⟩
 case round =>
  obtain ⟨k, hk, rfl, hrel⟩ := hrel
  have HA := Lib.hid hrel.out.1
  have S2 := Lib.hid hrel.out.2
  clear hrel S1
  by_cases hlt : (k : Int) < (N : Int)
  ·
   skip
   have hkl : k < xs.length := by have := HN.out; omega
   obtain ⟨ad, x, rfl, hx⟩ := readsI_some (HR.out _ S2.out.old) k hkl
   obtain ⟨⟨kd, n, t⟩, ia, ic, l⟩ := x
   have HK := Lib.hid (fun w' (h : Below w.heap.size w w') => readsI_at (HR.out _ h) k _ hx)
   try dsimp only at HK
   have HFI := Lib.hid (fit_at HF.out hx)
   try dsimp only [LI.con] at HFI
   have hci : k < (conI xs).length := by rw [conI_length]; exact hkl
   have HC := Lib.hid (show (conI xs)[k]? = some (⟨⟨kd, n, t⟩, l⟩ : It) from con_of hx)
   obtain ⟨bk, hbk⟩ : ∃ b, isK ⟨kd, n, t⟩ = b := ⟨_, rfl⟩
   have HIK := fun w => L4.specIsKey_any ⟨kd, n, t⟩ (by have : t.size ≤ 1099511627776 := HFI.out.text; show t.size ≤ _; omega) w
   rw [hbk] at HIK
   replace HIK := Lib.hid HIK
   have HBK := Lib.hid hbk
   obtain ⟨br, hbr⟩ : ∃ b, isR l = b := ⟨_, rfl⟩
   have HIR := fun w' (h : Below w.heap.size w w') => L5.specIsRecord_any ia ic l (by have : l.length ≤ 1048576 := HFI.out.len; omega) HFI.out.small w' (((HX.out _ h).at_ (rowsI_mem hx)).reads)
   rw [hbr] at HIR
   replace HIR := Lib.hid HIR
   have HBR := Lib.hid hbr
   clear hbk hbr
   obtain ⟨f0, f1, f2⟩ := Bag.cs3 S2.out 0 rfl
   obtain ⟨f3, f4, f5, f6⟩ := HK.out _ S2.out.old
   cases bk with
   | false =>
    go_upto_region 4 with fail
    clear f0 f1 f2 f3 f4 f5 f6
    refine wp_region_held_drew (S := (fun w' => (w'.cell? ⟨w.heap.size, 0, none⟩ = some (.string name) ∧ w'.cell? ⟨w.heap.size, 1, none⟩ = some (.slice (some ad) N c) ∧ w'.cell? ⟨w.heap.size, 2, none⟩ = some (.int .i64 auto)) ∧ (w'.cell? (ad.add (k * 4)) = some (.int .i64 kd) ∧ w'.cell? (⟨(ad.add (k * 4)).block, (ad.add (k * 4)).off + 1, none⟩) = some (.int .i64 n) ∧ w'.cell? (⟨(ad.add (k * 4)).block, (ad.add (k * 4)).off + 2, none⟩) = some (.string t) ∧ w'.cell? (⟨(ad.add (k * 4)).block, (ad.add (k * 4)).off + 3, none⟩) = some (.slice ia l.length ic)))) (by kernel_rfl) ⟨Bag.cs3 (Bag.drew1 S2.out) 0 rfl, HK.out _ (Bag.drew1 S2.out).old⟩ (fun hS => ?_)
    have S3 := Lib.hid (Bag.drew1 S2.out)
    clear S2
    generalize World.drew _ = w1 at hS S3 ⊢
    refine tk 0 rfl ?_
    try simp only [zp0, zp1, zp2, zp3, zp4]
    refine tk 1 rfl ?_
    try simp only [zp0, zp1, zp2, zp3, zp4]
    refine tk 2 rfl ?_
    try simp only [zp0, zp1, zp2, zp3, zp4]
    refine tk 3 rfl ?_
    try simp only [zp0, zp1, zp2, zp3, zp4]
    refine tk 4 rfl ?_
    try simp only [zp0, zp1, zp2, zp3, zp4]
    refine tk 5 rfl ?_
    try simp only [zp0, zp1, zp2, zp3, zp4]
    refine Reg.one_op (i := 6) rfl (by kernel_rfl) (fun K hK => ?_)
    go_simp
    go_at_call 94
    refine (HIK.out _).mono ?_
    rintro e w2 ⟨rfl, hb⟩
    have S4 := Lib.hid (S3.out.keep hb)
    clear S3
    clear hb
    go_wp2_with fail
    refine hK.out _ _ ⟨Bag.cs3 S4.out 0 rfl, HK.out _ S4.out.old⟩ (fun hS => ?_)
    clear hK K
    try simp only [zp0, zp1, zp2, zp3, zp4]
    refine tk 7 rfl ?_
    try simp only [zp0, zp1, zp2, zp3, zp4]
    refine tk 8 rfl ?_
    try simp only [zp0, zp1, zp2, zp3, zp4]
    refine sk 9 rfl ?_
    try simp only [zp0, zp1, zp2, zp3, zp4]
    refine sk 10 rfl ?_
    try simp only [zp0, zp1, zp2, zp3, zp4]
    refine sk 11 rfl ?_
    try simp only [zp0, zp1, zp2, zp3, zp4]
    refine sk 12 rfl ?_
    try simp only [zp0, zp1, zp2, zp3, zp4]
    refine sk 13 rfl ?_
    try simp only [zp0, zp1, zp2, zp3, zp4]
    refine sk 14 rfl ?_
    try simp only [zp0, zp1, zp2, zp3, zp4]
    refine Reg.skip_one (i := 15) rfl (by kernel_rfl) (by rfl) (by assumption) ?_
    try simp only [zp0, zp1, zp2, zp3, zp4]
    refine sk 16 rfl ?_
    try simp only [zp0, zp1, zp2, zp3, zp4]
    refine tk 17 rfl ?_
    try simp only [zp0, zp1, zp2, zp3, zp4]
    refine tk 18 rfl ?_
    try simp only [zp0, zp1, zp2, zp3, zp4]
    refine sk 19 rfl ?_
    try simp only [zp0, zp1, zp2, zp3, zp4]
    refine sk 20 rfl ?_
    try simp only [zp0, zp1, zp2, zp3, zp4]
    refine sk 21 rfl ?_
    try simp only [zp0, zp1, zp2, zp3, zp4]
    refine sk 22 rfl ?_
    try simp only [zp0, zp1, zp2, zp3, zp4]
    refine sk 23 rfl ?_
    try simp only [zp0, zp1, zp2, zp3, zp4]
    refine sk 24 rfl ?_
    try simp only [zp0, zp1, zp2, zp3, zp4]
    refine sk 25 rfl ?_
    try simp only [zp0, zp1, zp2, zp3, zp4]
    refine sk 26 rfl ?_
    try simp only [zp0, zp1, zp2, zp3, zp4]
    refine sk 27 rfl ?_
    try simp only [zp0, zp1, zp2, zp3, zp4]
    refine sk 28 rfl ?_
    try simp only [zp0, zp1, zp2, zp3, zp4]
    refine sk 29 rfl ?_
    try simp only [zp0, zp1, zp2, zp3, zp4]
    refine sk 30 rfl ?_
    try simp only [zp0, zp1, zp2, zp3, zp4]
    refine sk 31 rfl ?_
    try simp only [zp0, zp1, zp2, zp3, zp4]
    refine sk 32 rfl ?_
    try simp only [zp0, zp1, zp2, zp3, zp4]
    refine sk 33 rfl ?_
    try simp only [zp0, zp1, zp2, zp3, zp4]
    refine sk 34 rfl ?_
    try simp only [zp0, zp1, zp2, zp3, zp4]
    refine Reg.skip_one (i := 35) rfl (by kernel_rfl) (by rfl) (by assumption) ?_
    try simp only [zp0, zp1, zp2, zp3, zp4]
    refine sk 36 rfl ?_
    try simp only [zp0, zp1, zp2, zp3, zp4]
    refine sk 37 rfl ?_
    try simp only [zp0, zp1, zp2, zp3, zp4]
    refine tk 38 rfl ?_
    try simp only [zp0, zp1, zp2, zp3, zp4]
    refine wpAnyH_done (by kernel_rfl) ?_ _
    obtain ⟨f0, f1, f2⟩ := Bag.cs3 S4.out 0 rfl
    obtain ⟨f3, f4, f5, f6⟩ := HK.out _ S4.out.old
    have HNO := Lib.hid (show isI (conI xs) = false from isI_no k hci (by rw [okIx_at HC.out]; dsimp only; rw [HBK.out]; rfl))
    go_wp2_with fail
    go_ret
    exact ⟨by unfold isS; rw [HNO.out]; rfl, S4.out.old⟩
   | true =>
    cases br with
    | false =>
     go_upto_region 4 with fail
     clear f0 f1 f2 f3 f4 f5 f6
     refine wp_region_held_drew (S := (fun w' => (w'.cell? ⟨w.heap.size, 0, none⟩ = some (.string name) ∧ w'.cell? ⟨w.heap.size, 1, none⟩ = some (.slice (some ad) N c) ∧ w'.cell? ⟨w.heap.size, 2, none⟩ = some (.int .i64 auto)) ∧ (w'.cell? (ad.add (k * 4)) = some (.int .i64 kd) ∧ w'.cell? (⟨(ad.add (k * 4)).block, (ad.add (k * 4)).off + 1, none⟩) = some (.int .i64 n) ∧ w'.cell? (⟨(ad.add (k * 4)).block, (ad.add (k * 4)).off + 2, none⟩) = some (.string t) ∧ w'.cell? (⟨(ad.add (k * 4)).block, (ad.add (k * 4)).off + 3, none⟩) = some (.slice ia l.length ic)))) (by kernel_rfl) ⟨Bag.cs3 (Bag.drew1 S2.out) 0 rfl, HK.out _ (Bag.drew1 S2.out).old⟩ (fun hS => ?_)
     have S3 := Lib.hid (Bag.drew1 S2.out)
     clear S2
     generalize World.drew _ = w1 at hS S3 ⊢
     refine tk 0 rfl ?_
     try simp only [zp0, zp1, zp2, zp3, zp4]
     refine tk 1 rfl ?_
     try simp only [zp0, zp1, zp2, zp3, zp4]
     refine tk 2 rfl ?_
     try simp only [zp0, zp1, zp2, zp3, zp4]
     refine tk 3 rfl ?_
     try simp only [zp0, zp1, zp2, zp3, zp4]
     refine tk 4 rfl ?_
     try simp only [zp0, zp1, zp2, zp3, zp4]
     refine tk 5 rfl ?_
     try simp only [zp0, zp1, zp2, zp3, zp4]
     refine Reg.one_op (i := 6) rfl (by kernel_rfl) (fun K hK => ?_)
     go_simp
     go_at_call 94
     refine (HIK.out _).mono ?_
     rintro e w2 ⟨rfl, hb⟩
     have S4 := Lib.hid (S3.out.keep hb)
     clear S3
     clear hb
     go_wp2_with fail
     refine hK.out _ _ ⟨Bag.cs3 S4.out 0 rfl, HK.out _ S4.out.old⟩ (fun hS => ?_)
     clear hK K
     try simp only [zp0, zp1, zp2, zp3, zp4]
     refine tk 7 rfl ?_
     try simp only [zp0, zp1, zp2, zp3, zp4]
     refine tk 8 rfl ?_
     try simp only [zp0, zp1, zp2, zp3, zp4]
     refine tk 9 rfl ?_
     try simp only [zp0, zp1, zp2, zp3, zp4]
     refine tk 10 rfl ?_
     try simp only [zp0, zp1, zp2, zp3, zp4]
     refine tk 11 rfl ?_
     try simp only [zp0, zp1, zp2, zp3, zp4]
     refine tk 12 rfl ?_
     try simp only [zp0, zp1, zp2, zp3, zp4]
     refine tk 13 rfl ?_
     try simp only [zp0, zp1, zp2, zp3, zp4]
     refine tk 14 rfl ?_
     try simp only [zp0, zp1, zp2, zp3, zp4]
     refine Reg.one_op (i := 15) rfl (by kernel_rfl) (fun K hK => ?_)
     go_simp
     go_at_call 95
     refine (HIR.out _ S4.out.old).mono ?_
     rintro e w3 ⟨rfl, hb⟩
     have S5 := Lib.hid (S4.out.keep hb)
     clear S4
     clear hb
     go_wp2_with fail
     refine hK.out _ _ ⟨Bag.cs3 S5.out 0 rfl, HK.out _ S5.out.old⟩ (fun hS => ?_)
     clear hK K
     try simp only [zp0, zp1, zp2, zp3, zp4]
     refine tk 16 rfl ?_
     try simp only [zp0, zp1, zp2, zp3, zp4]
     refine tk 17 rfl ?_
     try simp only [zp0, zp1, zp2, zp3, zp4]
     refine tk 18 rfl ?_
     try simp only [zp0, zp1, zp2, zp3, zp4]
     refine sk 19 rfl ?_
     try simp only [zp0, zp1, zp2, zp3, zp4]
     refine sk 20 rfl ?_
     try simp only [zp0, zp1, zp2, zp3, zp4]
     refine sk 21 rfl ?_
     try simp only [zp0, zp1, zp2, zp3, zp4]
     refine sk 22 rfl ?_
     try simp only [zp0, zp1, zp2, zp3, zp4]
     refine sk 23 rfl ?_
     try simp only [zp0, zp1, zp2, zp3, zp4]
     refine sk 24 rfl ?_
     try simp only [zp0, zp1, zp2, zp3, zp4]
     refine sk 25 rfl ?_
     try simp only [zp0, zp1, zp2, zp3, zp4]
     refine sk 26 rfl ?_
     try simp only [zp0, zp1, zp2, zp3, zp4]
     refine sk 27 rfl ?_
     try simp only [zp0, zp1, zp2, zp3, zp4]
     refine sk 28 rfl ?_
     try simp only [zp0, zp1, zp2, zp3, zp4]
     refine sk 29 rfl ?_
     try simp only [zp0, zp1, zp2, zp3, zp4]
     refine sk 30 rfl ?_
     try simp only [zp0, zp1, zp2, zp3, zp4]
     refine sk 31 rfl ?_
     try simp only [zp0, zp1, zp2, zp3, zp4]
     refine sk 32 rfl ?_
     try simp only [zp0, zp1, zp2, zp3, zp4]
     refine sk 33 rfl ?_
     try simp only [zp0, zp1, zp2, zp3, zp4]
     refine sk 34 rfl ?_
     try simp only [zp0, zp1, zp2, zp3, zp4]
     refine Reg.skip_one (i := 35) rfl (by kernel_rfl) (by rfl) (by assumption) ?_
     try simp only [zp0, zp1, zp2, zp3, zp4]
     refine sk 36 rfl ?_
     try simp only [zp0, zp1, zp2, zp3, zp4]
     refine sk 37 rfl ?_
     try simp only [zp0, zp1, zp2, zp3, zp4]
     refine tk 38 rfl ?_
     try simp only [zp0, zp1, zp2, zp3, zp4]
     refine wpAnyH_done (by kernel_rfl) ?_ _
     obtain ⟨f0, f1, f2⟩ := Bag.cs3 S5.out 0 rfl
     obtain ⟨f3, f4, f5, f6⟩ := HK.out _ S5.out.old
     have HNO := Lib.hid (show isI (conI xs) = false from isI_no k hci (by rw [okIx_at HC.out]; dsimp only; rw [HBK.out, HBR.out]; rfl))
     go_wp2_with fail
     go_ret
     exact ⟨by unfold isS; rw [HNO.out]; rfl, S5.out.old⟩
    | true =>
     rcases Nat.eq_zero_or_pos k with hk0 | hk0
     ·
      have hk1 : (0 < k) = False := by simp; omega
      have HZ := Lib.hid hk0
      clear hk0
      go_upto_region 4 with fail
      clear f0 f1 f2 f3 f4 f5 f6
      refine wp_region_held_drew (S := (fun w' => (w'.cell? ⟨w.heap.size, 0, none⟩ = some (.string name) ∧ w'.cell? ⟨w.heap.size, 1, none⟩ = some (.slice (some ad) N c) ∧ w'.cell? ⟨w.heap.size, 2, none⟩ = some (.int .i64 auto)) ∧ (w'.cell? (ad.add (k * 4)) = some (.int .i64 kd) ∧ w'.cell? (⟨(ad.add (k * 4)).block, (ad.add (k * 4)).off + 1, none⟩) = some (.int .i64 n) ∧ w'.cell? (⟨(ad.add (k * 4)).block, (ad.add (k * 4)).off + 2, none⟩) = some (.string t) ∧ w'.cell? (⟨(ad.add (k * 4)).block, (ad.add (k * 4)).off + 3, none⟩) = some (.slice ia l.length ic)))) (by kernel_rfl) ⟨Bag.cs3 (Bag.drew1 S2.out) 0 rfl, HK.out _ (Bag.drew1 S2.out).old⟩ (fun hS => ?_)
      have S3 := Lib.hid (Bag.drew1 S2.out)
      clear S2
      generalize World.drew _ = w1 at hS S3 ⊢
      refine tk 0 rfl ?_
      try simp only [zp0, zp1, zp2, zp3, zp4]
      refine tk 1 rfl ?_
      try simp only [zp0, zp1, zp2, zp3, zp4]
      refine tk 2 rfl ?_
      try simp only [zp0, zp1, zp2, zp3, zp4]
      refine tk 3 rfl ?_
      try simp only [zp0, zp1, zp2, zp3, zp4]
      refine tk 4 rfl ?_
      try simp only [zp0, zp1, zp2, zp3, zp4]
      refine tk 5 rfl ?_
      try simp only [zp0, zp1, zp2, zp3, zp4]
      refine Reg.one_op (i := 6) rfl (by kernel_rfl) (fun K hK => ?_)
      go_simp
      go_at_call 94
      refine (HIK.out _).mono ?_
      rintro e w2 ⟨rfl, hb⟩
      have S4 := Lib.hid (S3.out.keep hb)
      clear S3
      clear hb
      go_wp2_with fail
      refine hK.out _ _ ⟨Bag.cs3 S4.out 0 rfl, HK.out _ S4.out.old⟩ (fun hS => ?_)
      clear hK K
      try simp only [zp0, zp1, zp2, zp3, zp4]
      refine tk 7 rfl ?_
      try simp only [zp0, zp1, zp2, zp3, zp4]
      refine tk 8 rfl ?_
      try simp only [zp0, zp1, zp2, zp3, zp4]
      refine tk 9 rfl ?_
      try simp only [zp0, zp1, zp2, zp3, zp4]
      refine tk 10 rfl ?_
      try simp only [zp0, zp1, zp2, zp3, zp4]
      refine tk 11 rfl ?_
      try simp only [zp0, zp1, zp2, zp3, zp4]
      refine tk 12 rfl ?_
      try simp only [zp0, zp1, zp2, zp3, zp4]
      refine tk 13 rfl ?_
      try simp only [zp0, zp1, zp2, zp3, zp4]
      refine tk 14 rfl ?_
      try simp only [zp0, zp1, zp2, zp3, zp4]
      refine Reg.one_op (i := 15) rfl (by kernel_rfl) (fun K hK => ?_)
      go_simp
      go_at_call 95
      refine (HIR.out _ S4.out.old).mono ?_
      rintro e w3 ⟨rfl, hb⟩
      have S5 := Lib.hid (S4.out.keep hb)
      clear S4
      clear hb
      go_wp2_with fail
      refine hK.out _ _ ⟨Bag.cs3 S5.out 0 rfl, HK.out _ S5.out.old⟩ (fun hS => ?_)
      clear hK K
      try simp only [zp0, zp1, zp2, zp3, zp4]
      refine tk 16 rfl ?_
      try simp only [zp0, zp1, zp2, zp3, zp4]
      refine tk 17 rfl ?_
      try simp only [zp0, zp1, zp2, zp3, zp4]
      refine tk 18 rfl ?_
      try simp only [zp0, zp1, zp2, zp3, zp4]
      refine tk 19 rfl ?_
      try simp only [zp0, zp1, zp2, zp3, zp4]
      refine tk 20 rfl ?_
      try simp only [zp0, zp1, zp2, zp3, zp4]
      refine tk 21 rfl ?_
      try simp only [zp0, zp1, zp2, zp3, zp4]
      refine sk 22 rfl ?_
      try simp only [zp0, zp1, zp2, zp3, zp4]
      refine sk 23 rfl ?_
      try simp only [zp0, zp1, zp2, zp3, zp4]
      refine sk 24 rfl ?_
      try simp only [zp0, zp1, zp2, zp3, zp4]
      refine sk 25 rfl ?_
      try simp only [zp0, zp1, zp2, zp3, zp4]
      refine sk 26 rfl ?_
      try simp only [zp0, zp1, zp2, zp3, zp4]
      refine sk 27 rfl ?_
      try simp only [zp0, zp1, zp2, zp3, zp4]
      refine sk 28 rfl ?_
      try simp only [zp0, zp1, zp2, zp3, zp4]
      refine sk 29 rfl ?_
      try simp only [zp0, zp1, zp2, zp3, zp4]
      refine sk 30 rfl ?_
      try simp only [zp0, zp1, zp2, zp3, zp4]
      refine sk 31 rfl ?_
      try simp only [zp0, zp1, zp2, zp3, zp4]
      refine sk 32 rfl ?_
      try simp only [zp0, zp1, zp2, zp3, zp4]
      refine sk 33 rfl ?_
      try simp only [zp0, zp1, zp2, zp3, zp4]
      refine sk 34 rfl ?_
      try simp only [zp0, zp1, zp2, zp3, zp4]
      refine Reg.skip_one (i := 35) rfl (by kernel_rfl) (by rfl) (by assumption) ?_
      try simp only [zp0, zp1, zp2, zp3, zp4]
      refine sk 36 rfl ?_
      try simp only [zp0, zp1, zp2, zp3, zp4]
      refine tk 37 rfl ?_
      try simp only [zp0, zp1, zp2, zp3, zp4]
      refine tk 38 rfl ?_
      try simp only [zp0, zp1, zp2, zp3, zp4]
      refine wpAnyH_done (by kernel_rfl) ?_ _
      obtain ⟨f0, f1, f2⟩ := Bag.cs3 S5.out 0 rfl
      obtain ⟨f3, f4, f5, f6⟩ := HK.out _ S5.out.old
      go_wp2_with fail
      go_roundw
      case rel => exact ⟨k + 1, by omega, by go_num, And.intro (fun j h => by
       by_cases e : j < k
       ·
        exact HA.out j e
       ·
        obtain rfl : j = k := by omega
        exact by rw [okIx_at HC.out]; dsimp only; rw [HBK.out, HBR.out, HZ.out]; rfl) S5.out⟩
      case measure => simp [intOf]; omega
     ·
      obtain ⟨m, hkm⟩ : ∃ m, k = m + 1 := ⟨k - 1, by omega⟩
      have hki : (k : Int) - 1 = (m : Int) := by omega
      have HKM := Lib.hid hkm
      have hm0 : m < xs.length := by omega
      have hmi : (m : Int) < (N : Int) := by omega
      have hmw : IntKind.i64.wrap (m : Int) = (m : Int) := IntWalk.i64_in _ ⟨by omega, by omega⟩
      clear hkm
      clear f0 f1 f2 f3 f4 f5 f6
      obtain ⟨ad_, x2, e_, hx2⟩ := readsI_some (HR.out _ S2.out.old) m hm0
      clear e_ ad_
      obtain ⟨⟨kd2, n2, t2⟩, ia2, ic2, l2⟩ := x2
      have HK2 := Lib.hid (fun w' (h : Below w.heap.size w w') => readsI_at (HR.out _ h) m _ hx2)
      try dsimp only at HK2
      have HC2 := Lib.hid (show (conI xs)[m]? = some (⟨⟨kd2, n2, t2⟩, l2⟩ : It) from con_of hx2)
      have HFI2 := Lib.hid (fit_at HF.out hx2)
      clear hx2
      obtain ⟨cv, hcv⟩ : ∃ b, cmpK ⟨kd2, n2, t2⟩ ⟨kd, n, t⟩ = b := ⟨_, rfl⟩
      have HCMP := fun w => L4.specCompareKeys_any ⟨kd2, n2, t2⟩ ⟨kd, n, t⟩ (by have : t2.size ≤ 1099511627776 := HFI2.out.text; show t2.size ≤ _; omega) (by have : t.size ≤ 1099511627776 := HFI.out.text; show t.size ≤ _; omega) w
      rw [hcv] at HCMP
      replace HCMP := Lib.hid HCMP
      have HCV := Lib.hid hcv
      clear hcv
      obtain ⟨f0, f1, f2⟩ := Bag.cs3 S2.out 0 rfl
      obtain ⟨f3, f4, f5, f6⟩ := HK.out _ S2.out.old
      obtain ⟨f7, f8, f9, f10⟩ := HK2.out _ S2.out.old
      by_cases hc : cv < 0
      ·
       have hc2 : ¬ 0 ≤ cv := by omega
       go_upto_region 4 with fail
       clear f0 f1 f2 f3 f4 f5 f6 f7 f8 f9 f10
       refine wp_region_held_drew (S := (fun w' => (w'.cell? ⟨w.heap.size, 0, none⟩ = some (.string name) ∧ w'.cell? ⟨w.heap.size, 1, none⟩ = some (.slice (some ad) N c) ∧ w'.cell? ⟨w.heap.size, 2, none⟩ = some (.int .i64 auto)) ∧ (w'.cell? (ad.add (k * 4)) = some (.int .i64 kd) ∧ w'.cell? (⟨(ad.add (k * 4)).block, (ad.add (k * 4)).off + 1, none⟩) = some (.int .i64 n) ∧ w'.cell? (⟨(ad.add (k * 4)).block, (ad.add (k * 4)).off + 2, none⟩) = some (.string t) ∧ w'.cell? (⟨(ad.add (k * 4)).block, (ad.add (k * 4)).off + 3, none⟩) = some (.slice ia l.length ic)) ∧ (w'.cell? (ad.add (m * 4)) = some (.int .i64 kd2) ∧ w'.cell? (⟨(ad.add (m * 4)).block, (ad.add (m * 4)).off + 1, none⟩) = some (.int .i64 n2) ∧ w'.cell? (⟨(ad.add (m * 4)).block, (ad.add (m * 4)).off + 2, none⟩) = some (.string t2) ∧ w'.cell? (⟨(ad.add (m * 4)).block, (ad.add (m * 4)).off + 3, none⟩) = some (.slice ia2 l2.length ic2)))) (by kernel_rfl) ⟨Bag.cs3 (Bag.drew1 S2.out) 0 rfl, HK.out _ (Bag.drew1 S2.out).old, HK2.out _ (Bag.drew1 S2.out).old⟩ (fun hS => ?_)
       have S3 := Lib.hid (Bag.drew1 S2.out)
       clear S2
       generalize World.drew _ = w1 at hS S3 ⊢
       refine tk 0 rfl ?_
       try simp only [zp0, zp1, zp2, zp3, zp4]
       refine tk 1 rfl ?_
       try simp only [zp0, zp1, zp2, zp3, zp4]
       refine tk 2 rfl ?_
       try simp only [zp0, zp1, zp2, zp3, zp4]
       refine tk 3 rfl ?_
       try simp only [zp0, zp1, zp2, zp3, zp4]
       refine tk 4 rfl ?_
       try simp only [zp0, zp1, zp2, zp3, zp4]
       refine tk 5 rfl ?_
       try simp only [zp0, zp1, zp2, zp3, zp4]
       refine Reg.one_op (i := 6) rfl (by kernel_rfl) (fun K hK => ?_)
       go_simp
       go_at_call 94
       refine (HIK.out _).mono ?_
       rintro e w2 ⟨rfl, hb⟩
       have S4 := Lib.hid (S3.out.keep hb)
       clear S3
       clear hb
       go_wp2_with fail
       refine hK.out _ _ ⟨Bag.cs3 S4.out 0 rfl, HK.out _ S4.out.old, HK2.out _ S4.out.old⟩ (fun hS => ?_)
       clear hK K
       try simp only [zp0, zp1, zp2, zp3, zp4]
       refine tk 7 rfl ?_
       try simp only [zp0, zp1, zp2, zp3, zp4]
       refine tk 8 rfl ?_
       try simp only [zp0, zp1, zp2, zp3, zp4]
       refine tk 9 rfl ?_
       try simp only [zp0, zp1, zp2, zp3, zp4]
       refine tk 10 rfl ?_
       try simp only [zp0, zp1, zp2, zp3, zp4]
       refine tk 11 rfl ?_
       try simp only [zp0, zp1, zp2, zp3, zp4]
       refine tk 12 rfl ?_
       try simp only [zp0, zp1, zp2, zp3, zp4]
       refine tk 13 rfl ?_
       try simp only [zp0, zp1, zp2, zp3, zp4]
       refine tk 14 rfl ?_
       try simp only [zp0, zp1, zp2, zp3, zp4]
       refine Reg.one_op (i := 15) rfl (by kernel_rfl) (fun K hK => ?_)
       go_simp
       go_at_call 95
       refine (HIR.out _ S4.out.old).mono ?_
       rintro e w3 ⟨rfl, hb⟩
       have S5 := Lib.hid (S4.out.keep hb)
       clear S4
       clear hb
       go_wp2_with fail
       refine hK.out _ _ ⟨Bag.cs3 S5.out 0 rfl, HK.out _ S5.out.old, HK2.out _ S5.out.old⟩ (fun hS => ?_)
       clear hK K
       try simp only [zp0, zp1, zp2, zp3, zp4]
       refine tk 16 rfl ?_
       try simp only [zp0, zp1, zp2, zp3, zp4]
       refine tk 17 rfl ?_
       try simp only [zp0, zp1, zp2, zp3, zp4]
       refine tk 18 rfl ?_
       try simp only [zp0, zp1, zp2, zp3, zp4]
       refine tk 19 rfl ?_
       try simp only [zp0, zp1, zp2, zp3, zp4]
       refine tk 20 rfl ?_
       try simp only [zp0, zp1, zp2, zp3, zp4]
       refine tk 21 rfl ?_
       try simp only [zp0, zp1, zp2, zp3, zp4]
       refine tk 22 rfl ?_
       try simp only [zp0, zp1, zp2, zp3, zp4]
       refine tk 23 rfl ?_
       try simp only [zp0, zp1, zp2, zp3, zp4]
       refine tk 24 rfl ?_
       try simp only [zp0, zp1, zp2, zp3, zp4]
       refine tk 25 rfl ?_
       try simp only [zp0, zp1, zp2, zp3, zp4]
       refine tk 26 rfl ?_
       try simp only [zp0, zp1, zp2, zp3, zp4]
       refine tk 27 rfl ?_
       try simp only [zp0, zp1, zp2, zp3, zp4]
       refine tk 28 rfl ?_
       try simp only [zp0, zp1, zp2, zp3, zp4]
       refine tk 29 rfl ?_
       try simp only [zp0, zp1, zp2, zp3, zp4]
       refine tk 30 rfl ?_
       try simp only [zp0, zp1, zp2, zp3, zp4]
       refine tk 31 rfl ?_
       try simp only [zp0, zp1, zp2, zp3, zp4]
       refine tk 32 rfl ?_
       try simp only [zp0, zp1, zp2, zp3, zp4]
       refine tk 33 rfl ?_
       try simp only [zp0, zp1, zp2, zp3, zp4]
       refine tk 34 rfl ?_
       try simp only [zp0, zp1, zp2, zp3, zp4]
       refine Reg.one_op (i := 35) rfl (by kernel_rfl) (fun K hK => ?_)
       go_simp
       go_at_call 96
       refine (HCMP.out _).mono ?_
       rintro e w4 ⟨rfl, hb⟩
       have S6 := Lib.hid (S5.out.keep hb)
       clear S5
       clear hb
       go_wp2_with fail
       refine hK.out _ _ ⟨Bag.cs3 S6.out 0 rfl, HK.out _ S6.out.old, HK2.out _ S6.out.old⟩ (fun hS => ?_)
       clear hK K
       try simp only [zp0, zp1, zp2, zp3, zp4]
       refine tk 36 rfl ?_
       try simp only [zp0, zp1, zp2, zp3, zp4]
       refine tk 37 rfl ?_
       try simp only [zp0, zp1, zp2, zp3, zp4]
       refine tk 38 rfl ?_
       try simp only [zp0, zp1, zp2, zp3, zp4]
       refine wpAnyH_done (by kernel_rfl) ?_ _
       obtain ⟨f0, f1, f2⟩ := Bag.cs3 S6.out 0 rfl
       obtain ⟨f3, f4, f5, f6⟩ := HK.out _ S6.out.old
       obtain ⟨f7, f8, f9, f10⟩ := HK2.out _ S6.out.old
       go_wp2_with fail
       go_roundw
       case rel => exact ⟨k + 1, by omega, by go_num, And.intro (fun j h => by
        by_cases e : j < k
        ·
         exact HA.out j e
        ·
         obtain rfl : j = k := by omega
         rw [okIx_at HC.out, HKM.out, behind_at HC2.out]; dsimp only; rw [HBK.out, HBR.out, HCV.out]; simpa using hc) S6.out⟩
       case measure => simp [intOf]; omega
      ·
       have hc2 : 0 ≤ cv := by omega
       go_upto_region 4 with fail
       clear f0 f1 f2 f3 f4 f5 f6 f7 f8 f9 f10
       refine wp_region_held_drew (S := (fun w' => (w'.cell? ⟨w.heap.size, 0, none⟩ = some (.string name) ∧ w'.cell? ⟨w.heap.size, 1, none⟩ = some (.slice (some ad) N c) ∧ w'.cell? ⟨w.heap.size, 2, none⟩ = some (.int .i64 auto)) ∧ (w'.cell? (ad.add (k * 4)) = some (.int .i64 kd) ∧ w'.cell? (⟨(ad.add (k * 4)).block, (ad.add (k * 4)).off + 1, none⟩) = some (.int .i64 n) ∧ w'.cell? (⟨(ad.add (k * 4)).block, (ad.add (k * 4)).off + 2, none⟩) = some (.string t) ∧ w'.cell? (⟨(ad.add (k * 4)).block, (ad.add (k * 4)).off + 3, none⟩) = some (.slice ia l.length ic)) ∧ (w'.cell? (ad.add (m * 4)) = some (.int .i64 kd2) ∧ w'.cell? (⟨(ad.add (m * 4)).block, (ad.add (m * 4)).off + 1, none⟩) = some (.int .i64 n2) ∧ w'.cell? (⟨(ad.add (m * 4)).block, (ad.add (m * 4)).off + 2, none⟩) = some (.string t2) ∧ w'.cell? (⟨(ad.add (m * 4)).block, (ad.add (m * 4)).off + 3, none⟩) = some (.slice ia2 l2.length ic2)))) (by kernel_rfl) ⟨Bag.cs3 (Bag.drew1 S2.out) 0 rfl, HK.out _ (Bag.drew1 S2.out).old, HK2.out _ (Bag.drew1 S2.out).old⟩ (fun hS => ?_)
       have S3 := Lib.hid (Bag.drew1 S2.out)
       clear S2
       generalize World.drew _ = w1 at hS S3 ⊢
       refine tk 0 rfl ?_
       try simp only [zp0, zp1, zp2, zp3, zp4]
       refine tk 1 rfl ?_
       try simp only [zp0, zp1, zp2, zp3, zp4]
       refine tk 2 rfl ?_
       try simp only [zp0, zp1, zp2, zp3, zp4]
       refine tk 3 rfl ?_
       try simp only [zp0, zp1, zp2, zp3, zp4]
       refine tk 4 rfl ?_
       try simp only [zp0, zp1, zp2, zp3, zp4]
       refine tk 5 rfl ?_
       try simp only [zp0, zp1, zp2, zp3, zp4]
       refine Reg.one_op (i := 6) rfl (by kernel_rfl) (fun K hK => ?_)
       go_simp
       go_at_call 94
       refine (HIK.out _).mono ?_
       rintro e w2 ⟨rfl, hb⟩
       have S4 := Lib.hid (S3.out.keep hb)
       clear S3
       clear hb
       go_wp2_with fail
       refine hK.out _ _ ⟨Bag.cs3 S4.out 0 rfl, HK.out _ S4.out.old, HK2.out _ S4.out.old⟩ (fun hS => ?_)
       clear hK K
       try simp only [zp0, zp1, zp2, zp3, zp4]
       refine tk 7 rfl ?_
       try simp only [zp0, zp1, zp2, zp3, zp4]
       refine tk 8 rfl ?_
       try simp only [zp0, zp1, zp2, zp3, zp4]
       refine tk 9 rfl ?_
       try simp only [zp0, zp1, zp2, zp3, zp4]
       refine tk 10 rfl ?_
       try simp only [zp0, zp1, zp2, zp3, zp4]
       refine tk 11 rfl ?_
       try simp only [zp0, zp1, zp2, zp3, zp4]
       refine tk 12 rfl ?_
       try simp only [zp0, zp1, zp2, zp3, zp4]
       refine tk 13 rfl ?_
       try simp only [zp0, zp1, zp2, zp3, zp4]
       refine tk 14 rfl ?_
       try simp only [zp0, zp1, zp2, zp3, zp4]
       refine Reg.one_op (i := 15) rfl (by kernel_rfl) (fun K hK => ?_)
       go_simp
       go_at_call 95
       refine (HIR.out _ S4.out.old).mono ?_
       rintro e w3 ⟨rfl, hb⟩
       have S5 := Lib.hid (S4.out.keep hb)
       clear S4
       clear hb
       go_wp2_with fail
       refine hK.out _ _ ⟨Bag.cs3 S5.out 0 rfl, HK.out _ S5.out.old, HK2.out _ S5.out.old⟩ (fun hS => ?_)
       clear hK K
       try simp only [zp0, zp1, zp2, zp3, zp4]
       refine tk 16 rfl ?_
       try simp only [zp0, zp1, zp2, zp3, zp4]
       refine tk 17 rfl ?_
       try simp only [zp0, zp1, zp2, zp3, zp4]
       refine tk 18 rfl ?_
       try simp only [zp0, zp1, zp2, zp3, zp4]
       refine tk 19 rfl ?_
       try simp only [zp0, zp1, zp2, zp3, zp4]
       refine tk 20 rfl ?_
       try simp only [zp0, zp1, zp2, zp3, zp4]
       refine tk 21 rfl ?_
       try simp only [zp0, zp1, zp2, zp3, zp4]
       refine tk 22 rfl ?_
       try simp only [zp0, zp1, zp2, zp3, zp4]
       refine tk 23 rfl ?_
       try simp only [zp0, zp1, zp2, zp3, zp4]
       refine tk 24 rfl ?_
       try simp only [zp0, zp1, zp2, zp3, zp4]
       refine tk 25 rfl ?_
       try simp only [zp0, zp1, zp2, zp3, zp4]
       refine tk 26 rfl ?_
       try simp only [zp0, zp1, zp2, zp3, zp4]
       refine tk 27 rfl ?_
       try simp only [zp0, zp1, zp2, zp3, zp4]
       refine tk 28 rfl ?_
       try simp only [zp0, zp1, zp2, zp3, zp4]
       refine tk 29 rfl ?_
       try simp only [zp0, zp1, zp2, zp3, zp4]
       refine tk 30 rfl ?_
       try simp only [zp0, zp1, zp2, zp3, zp4]
       refine tk 31 rfl ?_
       try simp only [zp0, zp1, zp2, zp3, zp4]
       refine tk 32 rfl ?_
       try simp only [zp0, zp1, zp2, zp3, zp4]
       refine tk 33 rfl ?_
       try simp only [zp0, zp1, zp2, zp3, zp4]
       refine tk 34 rfl ?_
       try simp only [zp0, zp1, zp2, zp3, zp4]
       refine Reg.one_op (i := 35) rfl (by kernel_rfl) (fun K hK => ?_)
       go_simp
       go_at_call 96
       refine (HCMP.out _).mono ?_
       rintro e w4 ⟨rfl, hb⟩
       have S6 := Lib.hid (S5.out.keep hb)
       clear S5
       clear hb
       go_wp2_with fail
       refine hK.out _ _ ⟨Bag.cs3 S6.out 0 rfl, HK.out _ S6.out.old, HK2.out _ S6.out.old⟩ (fun hS => ?_)
       clear hK K
       try simp only [zp0, zp1, zp2, zp3, zp4]
       refine tk 36 rfl ?_
       try simp only [zp0, zp1, zp2, zp3, zp4]
       refine tk 37 rfl ?_
       try simp only [zp0, zp1, zp2, zp3, zp4]
       refine tk 38 rfl ?_
       try simp only [zp0, zp1, zp2, zp3, zp4]
       refine wpAnyH_done (by kernel_rfl) ?_ _
       obtain ⟨f0, f1, f2⟩ := Bag.cs3 S6.out 0 rfl
       obtain ⟨f3, f4, f5, f6⟩ := HK.out _ S6.out.old
       obtain ⟨f7, f8, f9, f10⟩ := HK2.out _ S6.out.old
       have HNO := Lib.hid (show isI (conI xs) = false from isI_no k hci (by rw [okIx_at HC.out, HKM.out, behind_at HC2.out]; dsimp only; rw [HBK.out, HBR.out, HCV.out]; simpa using hc2))
       go_wp2_with fail
       go_ret
       exact ⟨by unfold isS; rw [HNO.out]; rfl, S6.out.old⟩
  ·
   skip
   obtain rfl : k = N := by omega
   have HI := Lib.hid (isI_all (xs := conI xs) (fun i hi => HA.out i (by rw [conI_length] at hi; have := HN.out; omega)))
   obtain ⟨bn, hbn⟩ : ∃ b, isN name.data.toList = b := ⟨_, rfl⟩
   have HIN := fun w => L5.specIsName_any name HNM.out w
   rw [hbn] at HIN
   replace HIN := Lib.hid HIN
   obtain ⟨ba, hba⟩ : ∃ b, L1.inB auto 0 1000000 = b := ⟨_, rfl⟩
   have HIA := fun w => L1.l1In_any auto 0 1000000 w
   rw [hba] at HIA
   replace HIA := Lib.hid HIA
   have HE := Lib.hid (show isS ⟨name, conI xs, auto⟩ = (bn && (decide (k ≤ 16) && ba)) from by unfold isS; rw [HI.out, hbn, hba, conI_length, ← HN.out]; rfl)
   clear hbn hba
   obtain ⟨f0, f1, f2⟩ := Bag.cs3 S2.out 0 rfl
   cases bn with
   | false =>
    go_wp2_with fail
    go_at_call 63
    refine (HIN.out _).mono ?_
    rintro e w1 ⟨rfl, rfl⟩
    go_wp2_with fail
    go_ret
    exact ⟨by rw [HE.out]; rfl, S2.out.old⟩
   | true =>
    go_wp2_with fail
    go_at_call 63
    refine (HIN.out _).mono ?_
    rintro e w1 ⟨rfl, rfl⟩
    by_cases h16 : (k : Int) ≤ 16
    ·
     have h16' : k ≤ 16 := by omega
     go_wp2_with fail
     go_at_call 65
     refine (HIA.out _).mono ?_
     rintro e w2 ⟨rfl, rfl⟩
     go_wp2_with fail
     go_ret
     exact ⟨by rw [HE.out, decide_eq_true h16']; rfl, S2.out.old⟩
    ·
     have h16' : ¬ k ≤ 16 := by omega
     go_wp2_with fail
     go_ret
     exact ⟨by rw [HE.out, decide_eq_false h16']; rfl, S2.out.old⟩
end Go.Proofs.YthljdhfgphebnaaGreat.L6

namespace Go.Proofs.YthljdhfgphebnaaGreat.L5
open L4 (boxR push_box box_at)
open Go.ChangeShapes Go.WideShapes Go.ChangeAt Go.RowKit Mem Sl Ex L2 Sv

theorem wpList_append_v {P : Program} {W w : World} {rs : List Res} {e : TypeId} {k : Nat} {a : Option Addr} {c n : Nat} {xs : List Value} (S : Sep W w rs) (j : Nat) (hj : rs[j]? = some (ownV e k a c n xs))
  {ops : Array Oper} {rest : List Oper} {o : Oper} {act : Act} {Q : Exit → Act → World → Prop} (hgd : o.guard = none) (s x : Operand) (t : TypeId)
  (ho : o.op = .call { callee := .builtin .append, args := #[s, x], argTypes := #[t, t] })
  (i : TypeInfo) (z : Value) (bytes : Nat) (ht : P.underlying t = some (.slice e)) (hi : P.info? e = some i) (hz : i.zero = some z)
  (hsize : i.size = k) (hby : i.bytes = bytes) (hzs : z.cells.size = k) (hk : 0 < k) (n1 : Nat) (hs : act.eval s = .slice a n1 c) (hn : n1 = n)
  (B' : Nat) (A : Option Addr) (m m1 c' : Nat) (ys : List Value) (hx : act.eval x = .slice A m1 c') (hm : m1 = m) (hr : Reads w B' A ys) (hy : ys.length = m * k) (hone : ∀ u ∈ ys, u.oneCell' = true)
  (h63 : n + m ≤ maxLen) (hbytes : (n + m) * bytes ≤ 140737488355328)
  (h : ∀ a1 c1 w', Sep W w' (rs.set j (ownV e k a1 c1 (n + m) (xs ++ ys))) → wpList P ops Q rest (act.put o.dst (.slice a1 (n + m) c1)) w') : wpList P ops Q (o :: rest) act w := by
 subst hn
 subst hm
 refine wpList_plain hgd fun K hK => ?_
 obtain ⟨a1, c1, w', hrun, h2, h3, h4⟩ := run_append_rows (P := P) w 0 t o.type e i z k bytes ht hi hz hsize hby hzs hk a c n1 xs (own_at S j hj) B' A c' m1 ys hr hy hone h63 hbytes (Nat.zero_le _)
 unfold Oper.wp execOp
 simp only [ho, resolve, invoke, builtin, Sem.run_bind, Sem.run_pure, Result.andThen_ok, List.map_toArray, List.map_cons, List.map_nil, hs, hx, hrun]
 refine hK _ _ (h a1 c1 w' (Sd.put_new S j hj (Turned.of_grown h3) h2 fun b hb => ?_))
 have hb' : (Value.slice a1 (n1 + m1) c1).ownBlock = some b := by simpa [ownV] using hb
 rcases h4 b hb' with h5 | rfl
 ·
  exact .inl (by simp [ownV, h5])
 ·
  have := World.ownsRow.lt h2 _ hb'
  exact .inr ⟨Nat.le_refl _, this.2⟩
end Go.Proofs.YthljdhfgphebnaaGreat.L5

namespace Go.Proofs.YthljdhfgphebnaaGreat.L7
open L4 (K isK cmpK R inR encU)
open L5 (F isR isN cellsF encR eqR Small getO getN getB)
open L6
open Go.ChangeShapes Go.WideShapes Go.ChangeAt Go.RowKit Mem Sl Ex L2 Sv Bag

theorem beq_no {a b : Int} (h : ¬ a = b) : (a == b) = false := by simpa using h

set_option maxHeartbeats 8000000 in
theorem l7Less_any (d1 n1 d2 n2 : Int) (t1 t2 : ByteArray) (a1 a2 : Option Addr) (c1 c2 : Nat) (l1 l2 : List F) (f : ByteArray) (ht1 : t1.size ≤ 1099511627776) (ht2 : t2.size ≤ 1099511627776) (hl1 : l1.length ≤ 1048576) (hl2 : l2.length ≤ 1048576) (w : World) (hr1 : Reads w w.heap.size a1 (cellsF l1)) (hr2 : Reads w w.heap.size a2 (cellsF l2)) :
  Calls Tryz.prog 135 #[.agg #[.int .i64 d1, .int .i64 n1, .string t1, .slice a1 l1.length c1], .agg #[.int .i64 d2, .int .i64 n2, .string t2, .slice a2 l2.length c2], .string f] w fun e w' => e = .returned (.bool (less7 f.data.toList ⟨⟨d1, n1, t1⟩, l1⟩ ⟨⟨d2, n2, t2⟩, l2⟩)) ∧ Below w.heap.size w w' := by
 have HR1 := Lib.hid (fun w' (h : Below w.heap.size w w') => L5.specGetField_any a1 c1 l1 f (by omega) w' ((hr1.below h).more h.size))
 have HR2 := Lib.hid (fun w' (h : Below w.heap.size w w') => L5.specGetField_any a2 c2 l2 f (by omega) w' ((hr2.below h).more h.size))
 have HCK := fun w => L4.specCompareKeys_any ⟨d1, n1, t1⟩ ⟨d2, n2, t2⟩ (by show t1.size ≤ _; omega) (by show t2.size ≤ _; omega) w
 obtain ⟨be, hbe⟩ : ∃ b, less7 f.data.toList ⟨⟨d1, n1, t1⟩, l1⟩ ⟨⟨d2, n2, t2⟩, l2⟩ = b := ⟨_, rfl⟩
 rw [hbe]
 unfold less7 at hbe
 dsimp only at hbe
 obtain ⟨na, hna⟩ : ∃ u, getN l1 f.data.toList = u := ⟨_, rfl⟩
 obtain ⟨nb, hnb⟩ : ∃ u, getN l2 f.data.toList = u := ⟨_, rfl⟩
 obtain ⟨m, hm⟩ : ∃ u, cmpK ⟨d1, n1, t1⟩ ⟨d2, n2, t2⟩ = u := ⟨_, rfl⟩
 rw [hna] at HR1
 rw [hnb] at HR2
 rw [hm] at HCK
 rw [hna, hnb, hm] at hbe
 replace HCK := Lib.hid HCK
 have HE := Lib.hid hbe
 clear hbe hna hnb hm hr1 hr2
 dsimp only [L4.K.v] at HCK
 have S1 := Lib.hid (show Sl.Sep w _ [_, _] from L4.push_box (L4.push_box (Sl.Sep.start w) 135 #[.int .i64 d1, .int .i64 n1, .string t1, .slice a1 l1.length c1] (w.heap.size) (by simp)) 135 #[.int .i64 d2, .int .i64 n2, .string t2, .slice a2 l2.length c2] (w.heap.size + 1) (by simp))
 obtain ⟨wa, hwa⟩ : ∃ u, u = ((w.alloc (.cells #[.int .i64 d1, .int .i64 n1, .string t1, .slice a1 l1.length c1] 135)).alloc (.cells #[.int .i64 d2, .int .i64 n2, .string t2, .slice a2 l2.length c2] 135)) := ⟨_, rfl⟩
 rw [← hwa] at S1
 go_enter Tryz.func135, Tryz.ntmps135
 go_upto_region 1 with fail
 rw [← hwa]
 clear hwa
 obtain ⟨f0, f1, f2, f3⟩ := Bag.cs4 S1.out 0 rfl
 obtain ⟨f4, f5, f6, f7⟩ := Bag.cs4 S1.out 1 rfl
 go_wp2_with fail
 go_at_call 98
 refine (HR1.out _ S1.out.old).mono ?_
 rintro e w1 ⟨rfl, hb⟩
 clear f0 f1 f2 f3 f4 f5 f6 f7
 have S2 := Lib.hid (S1.out.keep hb)
 clear S1
 clear hb
 obtain ⟨f0, f1, f2, f3⟩ := Bag.cs4 S2.out 0 rfl
 obtain ⟨f4, f5, f6, f7⟩ := Bag.cs4 S2.out 1 rfl
 go_wp2_with fail
 go_at_call 98
 refine (HR2.out _ S2.out.old).mono ?_
 rintro e w2 ⟨rfl, hb⟩
 clear f0 f1 f2 f3 f4 f5 f6 f7
 have S3 := Lib.hid (S2.out.keep hb)
 clear S2
 clear hb
 obtain ⟨f0, f1, f2, f3⟩ := Bag.cs4 S3.out 0 rfl
 obtain ⟨f4, f5, f6, f7⟩ := Bag.cs4 S3.out 1 rfl
 by_cases h1 : na < nb
 ·
  skip
  go_wp2_with fail
  go_ret
  exact ⟨by rw [← HE.out]; simp [h1], S3.out.old⟩
 ·
  by_cases h2 : na = nb
  ·
   have h2' : (na == nb) = true := by simp [h2]
   go_wp2_with fail
   go_at_call 96
   refine (HCK.out _).mono ?_
   rintro e w3 ⟨rfl, hb⟩
   clear f0 f1 f2 f3 f4 f5 f6 f7
   have S4 := Lib.hid (S3.out.keep hb)
   clear S3
   clear hb
   obtain ⟨f0, f1, f2, f3⟩ := Bag.cs4 S4.out 0 rfl
   obtain ⟨f4, f5, f6, f7⟩ := Bag.cs4 S4.out 1 rfl
   go_wp2_with fail
   go_ret
   exact ⟨by rw [← HE.out]; simp [h1, h2], S4.out.old⟩
  ·
   have h2' : (na == nb) = false := beq_no h2
   go_wp2_with fail
   go_ret
   exact ⟨by rw [← HE.out]; simp [h1, h2], S3.out.old⟩
end Go.Proofs.YthljdhfgphebnaaGreat.L7

namespace Go.Proofs.YthljdhfgphebnaaGreat.L6
open L4 (K isK cmpK R inR encU)
open L5 (F isR isN cellsF encR eqR Small)
open Go.ChangeShapes Go.WideShapes Go.ChangeAt Go.RowKit Mem Sl Ex L2 Sv Bag

theorem rowsI_ins (ys : List LI) (k : Nat) (z : LI) : (rowsI ys ++ [z.row]).Perm (rowsI (ys.take k ++ z :: ys.drop k)) := by
 have e : rowsI ys = rowsI (ys.take k) ++ rowsI (ys.drop k) := by rw [← rowsI_append, List.take_append_drop]
 rw [e, rowsI_append, List.append_assoc]
 exact List.Perm.append_left _ List.perm_append_comm
theorem cellsI_take : ∀ (ys : List LI) (k : Nat), (cellsI ys).take (k * 4) = cellsI (ys.take k)
 | [], k => by simp [cellsI]
 | y :: ys, 0 => by simp [cellsI]
 | y :: ys, k + 1 => by
  rw [List.take_succ_cons, cellsI_cons, cellsI_cons, ← cellsI_take ys k, show (k + 1) * 4 = k * 4 + 1 + 1 + 1 + 1 by omega]
  rfl
theorem cellsI_drop : ∀ (ys : List LI) (k : Nat), (cellsI ys).drop (k * 4) = cellsI (ys.drop k)
 | [], k => by simp [cellsI]
 | y :: ys, 0 => by simp
 | y :: ys, k + 1 => by
  rw [List.drop_succ_cons, cellsI_cons, ← cellsI_drop ys k, show (k + 1) * 4 = k * 4 + 1 + 1 + 1 + 1 by omega]
  rfl
theorem reads_head {w : World} {B : Nat} {a : Option Addr} {ys : List LI} (h : Reads w B a (cellsI ys)) (k : Nat) : Reads w B a (cellsI (ys.take k)) := fun j hj => by
 have hk : cellsI (ys.take k) = (cellsI ys).take (k * 4) := (cellsI_take ys k).symm
 have h2 : (cellsI (ys.take k))[j] = ((cellsI ys).take (k * 4))[j]'(by rw [← hk]; exact hj) := by simp only [hk]
 have h3 : j < (cellsI ys).length := by rw [hk, List.length_take] at hj; omega
 obtain ⟨ad, e, hb, hc⟩ := h j h3
 exact ⟨ad, e, hb, by rw [hc, h2, List.getElem_take]⟩
theorem reads_tail {w : World} {B : Nat} {ad : Addr} {ys : List LI} (h : Reads w B (some ad) (cellsI ys)) (k : Nat) : Reads w B (some (ad.add (k * 4))) (cellsI (ys.drop k)) := fun j hj => by
 have hk : cellsI (ys.drop k) = (cellsI ys).drop (k * 4) := (cellsI_drop ys k).symm
 have h2 : (cellsI (ys.drop k))[j] = ((cellsI ys).drop (k * 4))[j]'(by rw [← hk]; exact hj) := by simp only [hk]
 have h3 : k * 4 + j < (cellsI ys).length := by rw [hk, List.length_drop] at hj; omega
 obtain ⟨ad', e, hb, hc⟩ := h (k * 4 + j) h3
 injection e with e
 subst e
 exact ⟨ad.add (k * 4), rfl, by rw [add_block]; exact hb, by rw [add_add, hc, h2, List.getElem_drop]⟩
theorem reads_rest2 {w : World} {B g : Nat} {ys : List LI} (h : Reads w B (some ⟨g, 0, none⟩) (cellsI ys)) (k : Nat) : Reads w B (some ⟨g, k * 4, none⟩) (cellsI (ys.drop k)) := by
 have := reads_tail h k
 rwa [Addr.add_lit, Nat.zero_add] at this
theorem conI_ins (ys : List LI) (k : Nat) (z : LI) : conI (ys.take k ++ z :: ys.drop k) = (conI ys).take k ++ z.con :: (conI ys).drop k := by
 unfold conI
 rw [List.map_append, List.map_cons, List.map_take, List.map_drop]
end Go.Proofs.YthljdhfgphebnaaGreat.L6

set_option linter.unusedSimpArgs false
namespace Go.Proofs.YthljdhfgphebnaaGreat.L7
open L4 (K isK cmpK R inR encU)
open L5 (F isR isN cellsF encR eqR Small getO getN getB)
open L6
open Go.ChangeShapes Go.WideShapes Go.ChangeAt Go.RowKit Mem Sl Ex L2 Sv Bag

theorem fit_idx {xs : List It} {t : List UInt8} (h : ∀ x ∈ xs, FitI x) : ∀ x ∈ idxI xs t, FitI x := fun x hx => h x (idxI_mem x hx).1
theorem idx_take {xs : List It} {t : List UInt8} {k : Nat} (h : ∀ x ∈ xs, FitI x) : ∀ x ∈ idxI (xs.take k) t, FitI x := fun x hx => h x (List.mem_of_mem_take (idxI_mem x hx).1)

set_option maxHeartbeats 8000000 in
theorem specIndexOn_any (y : LS) (f : ByteArray) (hf : FitS y.con) (w : World) (hr : RowsRd w w.heap.size y.rows) :
  Calls Tryz.prog 97 #[y.v, .string f] w (GaveIs w (idxI y.con.items f.data.toList)) := by
 obtain ⟨i0, hi1, hi2, hi3, hi4⟩ := itemInfo
 have HI := Lib.hid (And.intro hi1 (And.intro hi2 (And.intro hi3 hi4)))
 clear hi1 hi2 hi3 hi4
 obtain ⟨name, a, c, xs, auto⟩ := y
 have HR := Lib.hid (fun w' (h : Below w.heap.size w w') => LS.outer (hr.below h))
 have HX := Lib.hid (fun w' (h : Below w.heap.size w w') => (LS.inner (hr.below h)).more h.size)
 have HF := Lib.hid hf.items
 have HNM := Lib.hid hf.name
 have hl := hf.len
 simp only [LS.con, conI_length] at hl
 dsimp only [LS.con] at HR HX HF HNM
 try unfold LS.v LS.cells LS.con
 try dsimp only
 obtain ⟨N, hN⟩ : ∃ n, n = xs.length := ⟨_, rfl⟩
 rw [← hN] at hl ⊢
 have hl' : (N : Int) ≤ 1048576 := by omega
 have HN := Lib.hid hN
 clear hN hr hf
 have S1 := Lib.hid (show Sl.Sep w _ [_] from L4.push_box (Sl.Sep.start w) 70 #[.string name, .slice a N c, .int .i64 auto] (w.heap.size) (by simp))
 obtain ⟨wa, hwa⟩ : ∃ u, u = (w.alloc (.cells #[.string name, .slice a N c, .int .i64 auto] 70)) := ⟨_, rfl⟩
 rw [← hwa] at S1
 go_enter Tryz.func97, Tryz.ntmps97
 go_upto_region 1 with fail
 rw [← hwa]
 clear hwa
 go_upto_region 2 with fail
 have S2 := Lib.hid (show Sl.Sep w _ [_, Sv.ownV 135 4 (some ⟨wa.heap.size, 0, none⟩) 0 0 (cellsI [])] from Sv.push_own S1.out ((Below.refl _ _).alloc (Nat.le_refl _) _) (OwnV.madeAt wa 135 4 0 wa.heap.size #[] rfl (Nat.le_refl _) rfl (by decide)))
 clear S1
 obtain ⟨g1, hg⟩ : ∃ g', g' = wa.heap.size := ⟨_, rfl⟩
 rw [← hg] at S2 ⊢
 clear hg
 generalize wa.alloc (.cells #[] 135) = w1 at S2 ⊢
 have S3 := Lib.hid (show Sl.Sep w _ [_, Sv.ownV 135 4 (some ⟨g1, 0, none⟩) 0 0 (cellsI []), Bag.bag (rowsI [])] from Bag.push_bag S2.out (Below.refl _ _) (Bag.BagOwn.nil _ _))
 clear S2
 go_wp2_with fail
 go_loopw [5, 6] (fun v i wr => ∃ (k m : Nat) (A : Option Addr) (C : Nat) (ys : List LI), k ≤ N ∧ i = .int .i64 k ∧ v = .slice A m C ∧ m ≤ k ∧ Hid ((m = ys.length ∧ conI ys = idxI ((conI xs).take k) f.data.toList) ∧ Sl.Sep w wr [L4.boxR w.heap.size 70 #[.string name, .slice a N c, .int .i64 auto], Sv.ownV 135 4 A C m (cellsI ys), Bag.bag (rowsI ys)])) (fun _ i _ => N - (intOf i).toNat)
 case atStart => exact ⟨0, 0, _, _, [], Nat.zero_le _, rfl, rfl, Nat.le_refl _, And.intro ⟨rfl, rfl⟩ S3.out⟩
 case round =>
  obtain ⟨k, m, A, C, ys, hk, rfl, rfl, hmk, hrel⟩ := hrel
  have HC := Lib.hid hrel.out.1
  have S4 := Lib.hid hrel.out.2
  clear hrel S3
  by_cases hlt : (k : Int) < (N : Int)
  ·
   skip
   have hkl : k < xs.length := by have := HN.out; omega
   obtain ⟨ad, x, rfl, hx⟩ := readsI_some (HR.out _ S4.out.old) k hkl
   obtain ⟨⟨kd, n, t⟩, ia, ic, l⟩ := x
   have HK := Lib.hid (fun w' (h : Below w.heap.size w w') => readsI_at (HR.out _ h) k _ hx)
   try dsimp only at HK
   have HFI := Lib.hid (fit_at HF.out hx)
   try dsimp only [LI.con] at HFI
   have HCI := Lib.hid (fun w' (h : Below w.heap.size w w') => l6Item_any kd n t ia ic l HFI.out.len w' (((HX.out _ h).at_ (rowsI_mem hx)).reads))
   try dsimp only at HCI
   have HGF := Lib.hid (fun w' (h : Below w.heap.size w w') => L5.specGetField_any ia ic l f (by have : l.length ≤ 1048576 := HFI.out.len; omega) w' (((HX.out _ h).at_ (rowsI_mem hx)).reads))
   obtain ⟨fn, hfn⟩ : ∃ u, getN l f.data.toList = u := ⟨_, rfl⟩
   obtain ⟨fb, hfb⟩ : ∃ u, getB l f.data.toList = u := ⟨_, rfl⟩
   rw [hfn, hfb] at HGF
   have HT := Lib.hid (idxI_take (t := f.data.toList) (show (conI xs)[k]? = some (⟨⟨kd, n, t⟩, l⟩ : It) from con_of hx))
   unfold stepX at HT
   dsimp only at HT
   rw [hfb] at HT
   have HXK := Lib.hid (fun w' (h : Below w.heap.size w w') => ((HX.out _ h).at_ (rowsI_mem hx)).reads)
   try dsimp only [LI.row] at HXK
   clear hx hfn hfb
   obtain ⟨f0, f1, f2⟩ := Bag.cs3 S4.out 0 rfl
   obtain ⟨f3, f4, f5, f6⟩ := HK.out _ S4.out.old
   go_wp2_with fail
   go_at_call 98
   refine (HGF.out _ S4.out.old).mono ?_
   rintro e w2 ⟨rfl, hb⟩
   clear f0 f1 f2 f3 f4 f5 f6
   have S5 := Lib.hid (S4.out.keep hb)
   clear S4
   clear hb
   obtain ⟨f0, f1, f2⟩ := Bag.cs3 S5.out 0 rfl
   obtain ⟨f3, f4, f5, f6⟩ := HK.out _ S5.out.old
   cases fb with
   | false =>
    go_wp2_with fail
    go_roundw
    case rel => exact ⟨k + 1, m, A, C, ys, by omega, by go_num, rfl, by omega, And.intro ⟨HC.out.1, by rw [HT.out, HC.out.2]; simp⟩ S5.out⟩
    case measure => simp [intOf]; omega
   | true =>
    rw [if_pos rfl] at HT
    go_upto_block 2 with fail
    go_cut [9] (fun v wx => ∃ j : Nat, j ≤ m ∧ v = .int .i64 j ∧ Hid (backP f.data.toList ⟨⟨kd, n, t⟩, l⟩ (conI ys) m = j ∧ Sl.Sep w wx [L4.boxR w.heap.size 70 #[.string name, .slice (some ad) N c, .int .i64 auto], Sv.ownV 135 4 A C m (cellsI ys), Bag.bag (rowsI ys)]))
    case first =>
     go_wp2_with fail
     go_loopw [9] (fun v wr2 => ∃ j : Nat, j ≤ m ∧ v = .int .i64 j ∧ Hid (backP f.data.toList ⟨⟨kd, n, t⟩, l⟩ (conI ys) m = backP f.data.toList ⟨⟨kd, n, t⟩, l⟩ (conI ys) j ∧ Sl.Sep w wr2 [L4.boxR w.heap.size 70 #[.string name, .slice (some ad) N c, .int .i64 auto], Sv.ownV 135 4 A C m (cellsI ys), Bag.bag (rowsI ys)])) (fun v _ => (intOf v).toNat)
     case atStart => exact ⟨m, Nat.le_refl _, rfl, And.intro rfl S5.out⟩
     case round =>
      clear f0 f1 f2 f3 f4 f5 f6
      obtain ⟨j, hjm, rfl, hrel⟩ := hrel
      have HBP := Lib.hid hrel.out.1
      have S6 := Lib.hid hrel.out.2
      clear hrel S5
      by_cases hj0 : j = 0
      ·
       subst hj0
       obtain ⟨f0, f1, f2⟩ := Bag.cs3 S6.out 0 rfl
       obtain ⟨f3, f4, f5, f6⟩ := HK.out _ S6.out.old
       go_upto_region 8 with fail
       clear f0 f1 f2 f3 f4 f5 f6
       refine wp_region_held_drew (S := (fun w' => (w'.cell? ⟨w.heap.size, 0, none⟩ = some (.string name) ∧ w'.cell? ⟨w.heap.size, 1, none⟩ = some (.slice (some ad) N c) ∧ w'.cell? ⟨w.heap.size, 2, none⟩ = some (.int .i64 auto)) ∧ (w'.cell? (ad.add (k * 4)) = some (.int .i64 kd) ∧ w'.cell? (⟨(ad.add (k * 4)).block, (ad.add (k * 4)).off + 1, none⟩) = some (.int .i64 n) ∧ w'.cell? (⟨(ad.add (k * 4)).block, (ad.add (k * 4)).off + 2, none⟩) = some (.string t) ∧ w'.cell? (⟨(ad.add (k * 4)).block, (ad.add (k * 4)).off + 3, none⟩) = some (.slice ia l.length ic)))) (by kernel_rfl) ⟨Bag.cs3 (Bag.drew1 S6.out) 0 rfl, HK.out _ (Bag.drew1 S6.out).old⟩ (fun hS => ?_)
       have S7 := Lib.hid (Bag.drew1 S6.out)
       clear S6
       generalize World.drew _ = w3 at hS S7 ⊢
       refine tk 0 rfl ?_
       try simp only [zp0, zp1, zp2, zp3, zp4]
       refine tk 1 rfl ?_
       try simp only [zp0, zp1, zp2, zp3, zp4]
       refine tk 2 rfl ?_
       try simp only [zp0, zp1, zp2, zp3, zp4]
       refine sk 3 rfl ?_
       try simp only [zp0, zp1, zp2, zp3, zp4]
       refine sk 4 rfl ?_
       try simp only [zp0, zp1, zp2, zp3, zp4]
       refine sk 5 rfl ?_
       try simp only [zp0, zp1, zp2, zp3, zp4]
       refine sk 6 rfl ?_
       try simp only [zp0, zp1, zp2, zp3, zp4]
       refine sk 7 rfl ?_
       try simp only [zp0, zp1, zp2, zp3, zp4]
       refine sk 8 rfl ?_
       try simp only [zp0, zp1, zp2, zp3, zp4]
       refine sk 9 rfl ?_
       try simp only [zp0, zp1, zp2, zp3, zp4]
       refine sk 10 rfl ?_
       try simp only [zp0, zp1, zp2, zp3, zp4]
       refine sk 11 rfl ?_
       try simp only [zp0, zp1, zp2, zp3, zp4]
       refine sk 12 rfl ?_
       try simp only [zp0, zp1, zp2, zp3, zp4]
       refine sk 13 rfl ?_
       try simp only [zp0, zp1, zp2, zp3, zp4]
       refine Reg.skip_one (i := 14) rfl (by kernel_rfl) (by rfl) (by assumption) ?_
       try simp only [zp0, zp1, zp2, zp3, zp4]
       refine tk 15 rfl ?_
       try simp only [zp0, zp1, zp2, zp3, zp4]
       refine wpAnyH_done (by kernel_rfl) ?_ _
       obtain ⟨f0, f1, f2⟩ := Bag.cs3 S7.out 0 rfl
       obtain ⟨f3, f4, f5, f6⟩ := HK.out _ S7.out.old
       go_wp2_with fail
       go_meet
       case rel => exact ⟨0, by omega, rfl, And.intro (by rw [HBP.out]; rfl) S7.out⟩
      ·
       skip
       obtain ⟨i, rfl⟩ : ∃ i, j = i + 1 := ⟨j - 1, by omega⟩
       have hiy : i < ys.length := by have := HC.out.1; omega
       obtain ⟨ad2, x2, e2, hx2⟩ := readsI_some ((Sv.own_at S6.out 1 rfl).reads) i hiy
       subst e2
       obtain ⟨⟨kd2, n2, t2⟩, ia2, ic2, l2⟩ := x2
       have HFI2 := Lib.hid (show FitI ⟨⟨kd2, n2, t2⟩, l2⟩ from idx_take HF.out _ (by rw [← HC.out.2]; exact List.mem_of_getElem? (con_of hx2)))
       have HY2 := Lib.hid (show (conI ys)[i]? = some (⟨⟨kd2, n2, t2⟩, l2⟩ : It) from con_of hx2)
       have HX2 := Lib.hid hx2
       have hsub : ((i + 1 : Nat) : Int) - 1 = (i : Int) := by omega
       have hi0 : 0 < ((i + 1 : Nat) : Int) := by omega
       have him : (i : Int) < (m : Int) := by omega
       have hwr : IntKind.i64.wrap (i : Int) = (i : Int) := IntWalk.i64_in _ ⟨by omega, by have := HC.out.1; omega⟩
       obtain ⟨bl, hbl⟩ : ∃ b, less7 f.data.toList ⟨⟨kd, n, t⟩, l⟩ ⟨⟨kd2, n2, t2⟩, l2⟩ = b := ⟨_, rfl⟩
       obtain ⟨f0, f1, f2⟩ := Bag.cs3 S6.out 0 rfl
       obtain ⟨f3, f4, f5, f6⟩ := HK.out _ S6.out.old
       have f7 : World.cell? _ (ad2.add (i * 4)) = some (.int .i64 kd2) := (readsI_at (Sv.own_at S6.out 1 rfl).reads i _ HX2.out).1
       have f8 : World.cell? _ (⟨(ad2.add (i * 4)).block, (ad2.add (i * 4)).off + 1, none⟩) = some (.int .i64 n2) := (readsI_at (Sv.own_at S6.out 1 rfl).reads i _ HX2.out).2.1
       have f9 : World.cell? _ (⟨(ad2.add (i * 4)).block, (ad2.add (i * 4)).off + 2, none⟩) = some (.string t2) := (readsI_at (Sv.own_at S6.out 1 rfl).reads i _ HX2.out).2.2.1
       have f10 : World.cell? _ (⟨(ad2.add (i * 4)).block, (ad2.add (i * 4)).off + 3, none⟩) = some (.slice ia2 l2.length ic2) := (readsI_at (Sv.own_at S6.out 1 rfl).reads i _ HX2.out).2.2.2
       go_upto_region 8 with fail
       clear f0 f1 f2 f3 f4 f5 f6 f7 f8 f9 f10
       refine wp_region_held_drew (S := (fun w' => (w'.cell? ⟨w.heap.size, 0, none⟩ = some (.string name) ∧ w'.cell? ⟨w.heap.size, 1, none⟩ = some (.slice (some ad) N c) ∧ w'.cell? ⟨w.heap.size, 2, none⟩ = some (.int .i64 auto)) ∧ (w'.cell? (ad.add (k * 4)) = some (.int .i64 kd) ∧ w'.cell? (⟨(ad.add (k * 4)).block, (ad.add (k * 4)).off + 1, none⟩) = some (.int .i64 n) ∧ w'.cell? (⟨(ad.add (k * 4)).block, (ad.add (k * 4)).off + 2, none⟩) = some (.string t) ∧ w'.cell? (⟨(ad.add (k * 4)).block, (ad.add (k * 4)).off + 3, none⟩) = some (.slice ia l.length ic)) ∧ w'.cell? (ad2.add (i * 4)) = some (.int .i64 kd2) ∧ w'.cell? (⟨(ad2.add (i * 4)).block, (ad2.add (i * 4)).off + 1, none⟩) = some (.int .i64 n2) ∧ w'.cell? (⟨(ad2.add (i * 4)).block, (ad2.add (i * 4)).off + 2, none⟩) = some (.string t2) ∧ w'.cell? (⟨(ad2.add (i * 4)).block, (ad2.add (i * 4)).off + 3, none⟩) = some (.slice ia2 l2.length ic2))) (by kernel_rfl) ⟨Bag.cs3 (Bag.drew1 S6.out) 0 rfl, HK.out _ (Bag.drew1 S6.out).old, (readsI_at (Sv.own_at (Bag.drew1 S6.out) 1 rfl).reads i _ HX2.out).1, (readsI_at (Sv.own_at (Bag.drew1 S6.out) 1 rfl).reads i _ HX2.out).2.1, (readsI_at (Sv.own_at (Bag.drew1 S6.out) 1 rfl).reads i _ HX2.out).2.2.1, (readsI_at (Sv.own_at (Bag.drew1 S6.out) 1 rfl).reads i _ HX2.out).2.2.2⟩ (fun hS => ?_)
       have S7 := Lib.hid (Bag.drew1 S6.out)
       clear S6
       generalize World.drew _ = w3 at hS S7 ⊢
       refine tk 0 rfl ?_
       try simp only [zp0, zp1, zp2, zp3, zp4]
       refine tk 1 rfl ?_
       try simp only [zp0, zp1, zp2, zp3, zp4]
       refine tk 2 rfl ?_
       try simp only [zp0, zp1, zp2, zp3, zp4]
       refine tk 3 rfl ?_
       try simp only [zp0, zp1, zp2, zp3, zp4]
       refine tk 4 rfl ?_
       try simp only [zp0, zp1, zp2, zp3, zp4]
       refine tk 5 rfl ?_
       try simp only [zp0, zp1, zp2, zp3, zp4]
       refine tk 6 rfl ?_
       try simp only [zp0, zp1, zp2, zp3, zp4]
       refine tk 7 rfl ?_
       try simp only [zp0, zp1, zp2, zp3, zp4]
       refine tk 8 rfl ?_
       try simp only [zp0, zp1, zp2, zp3, zp4]
       refine tk 9 rfl ?_
       try simp only [zp0, zp1, zp2, zp3, zp4]
       refine tk 10 rfl ?_
       try simp only [zp0, zp1, zp2, zp3, zp4]
       refine tk 11 rfl ?_
       try simp only [zp0, zp1, zp2, zp3, zp4]
       refine tk 12 rfl ?_
       try simp only [zp0, zp1, zp2, zp3, zp4]
       refine tk 13 rfl ?_
       try simp only [zp0, zp1, zp2, zp3, zp4]
       refine Reg.one_op (i := 14) rfl (by kernel_rfl) (fun K hK => ?_)
       have HLS := l7Less_any kd n kd2 n2 t t2 ia ia2 ic ic2 l l2 f HFI.out.text HFI2.out.text HFI.out.len HFI2.out.len _ (HXK.out _ S7.out.old) (((Bag.bag_rd S7.out 2 rfl).at_ (rowsI_mem HX2.out)).reads)
       rw [hbl] at HLS
       go_simp
       go_at_call 135
       refine HLS.mono ?_
       clear HLS
       rintro e w4 ⟨rfl, hb⟩
       have S8 := Lib.hid (S7.out.keep hb)
       clear S7
       clear hb
       go_wp2_with fail
       refine hK.out _ _ ⟨Bag.cs3 S8.out 0 rfl, HK.out _ S8.out.old, (readsI_at (Sv.own_at S8.out 1 rfl).reads i _ HX2.out).1, (readsI_at (Sv.own_at S8.out 1 rfl).reads i _ HX2.out).2.1, (readsI_at (Sv.own_at S8.out 1 rfl).reads i _ HX2.out).2.2.1, (readsI_at (Sv.own_at S8.out 1 rfl).reads i _ HX2.out).2.2.2⟩ (fun hS => ?_)
       clear hK K
       try simp only [zp0, zp1, zp2, zp3, zp4]
       refine tk 15 rfl ?_
       try simp only [zp0, zp1, zp2, zp3, zp4]
       refine wpAnyH_done (by kernel_rfl) ?_ _
       obtain ⟨f0, f1, f2⟩ := Bag.cs3 S8.out 0 rfl
       obtain ⟨f3, f4, f5, f6⟩ := HK.out _ S8.out.old
       have f7 : World.cell? _ (ad2.add (i * 4)) = some (.int .i64 kd2) := (readsI_at (Sv.own_at S8.out 1 rfl).reads i _ HX2.out).1
       have f8 : World.cell? _ (⟨(ad2.add (i * 4)).block, (ad2.add (i * 4)).off + 1, none⟩) = some (.int .i64 n2) := (readsI_at (Sv.own_at S8.out 1 rfl).reads i _ HX2.out).2.1
       have f9 : World.cell? _ (⟨(ad2.add (i * 4)).block, (ad2.add (i * 4)).off + 2, none⟩) = some (.string t2) := (readsI_at (Sv.own_at S8.out 1 rfl).reads i _ HX2.out).2.2.1
       have f10 : World.cell? _ (⟨(ad2.add (i * 4)).block, (ad2.add (i * 4)).off + 3, none⟩) = some (.slice ia2 l2.length ic2) := (readsI_at (Sv.own_at S8.out 1 rfl).reads i _ HX2.out).2.2.2
       cases bl with
       | true =>
        go_wp2_with fail
        go_roundw
        case rel => exact ⟨i, by omega, by go_num, And.intro (by rw [HBP.out, backP_go HY2.out hbl]) S8.out⟩
        case measure => simp [intOf]
       | false =>
        go_wp2_with fail
        go_meet
        case rel => exact ⟨i + 1, by omega, rfl, And.intro (by rw [HBP.out]; exact backP_stop HY2.out hbl) S8.out⟩
    case rest =>
     obtain ⟨j, hjm, rfl, hq⟩ := hcut
     obtain ⟨ww, hww, hS⟩ : ∃ u, u = _ ∧ Sl.Sep w u [L4.boxR w.heap.size 70 #[.string name, .slice (some ad) N c, .int .i64 auto], Sv.ownV 135 4 A C m (cellsI ys), Bag.bag (rowsI ys)] := ⟨_, rfl, hq.out.2⟩
     subst hww
     have HBP := Lib.hid hq.out.1
     have S6 := Lib.hid hS
     clear hq hS S5
     have HML := Lib.hid HC.out.1
     have hjy : j ≤ ys.length := by have := HML.out; omega
     by_cases hjl : j = m
     ·
      subst hjl
      have hcap : j ≤ C := by have := (Sv.own_at S6.out 1 rfl).cap; omega
      have hck : (j : Int) ≤ (C : Int) := by omega
      have S7 := Lib.hid (show Sl.Sep w _ [L4.boxR w.heap.size 70 #[.string name, .slice (some ad) N c, .int .i64 auto], Sv.ownV 135 4 A C j (cellsI ys), Bag.bag (rowsI ys), Sv.ownV 135 4 (some ⟨ww.heap.size, 0, none⟩) 0 0 (cellsI [])] from Sv.push_own S6.out ((Below.refl _ _).alloc (Nat.le_refl _) _) (OwnV.madeAt ww 135 4 0 ww.heap.size #[] rfl (Nat.le_refl _) rfl (by decide)))
      clear S6
      obtain ⟨f0, f1, f2⟩ := Bag.cs3 S7.out 0 rfl
      obtain ⟨f3, f4, f5, f6⟩ := HK.out _ S7.out.old
      go_upto_region 11 with (at_builtin; refine L5.wpList_append_v S7.out 3 rfl rfl _ _ 68 (by rfl) i0 (.agg #[.int .i64 0, .int .i64 0, .string ⟨#[]⟩, .slice none 0 0]) 56 Tryz.underlying68 HI.out.1 HI.out.2.1 HI.out.2.2.1 HI.out.2.2.2 rfl (by omega) _ (by rfl) rfl _ _ j _ _ (cellsI (ys.take j)) (by rfl) rfl (reads_head (Sv.own_at S7.out 1 rfl).reads j) (by rw [cellsI_length, List.length_take, Nat.min_eq_left hjy]) (cellsI_one _) (by unfold maxLen; omega) (by omega) ?_; intro a2' c2' w3 hA)
      clear f0 f1 f2 f3 f4 f5 f6
      have S8 := Lib.hid (show Sl.Sep w w3 [L4.boxR w.heap.size 70 #[.string name, .slice (some ad) N c, .int .i64 auto], Sv.ownV 135 4 A C j (cellsI ys), Bag.bag (rowsI ys), Sv.ownV 135 4 a2' c2' j (cellsI (ys.take j))] from (by have h := hA; first | exact h | (rw [Nat.zero_add] at h; exact h)))
      clear S7
      clear hA
      obtain ⟨f0, f1, f2⟩ := Bag.cs3 S8.out 0 rfl
      obtain ⟨f3, f4, f5, f6⟩ := HK.out _ S8.out.old
      go_wp2_with fail
      go_at_call 84
      refine (HCI.out _ S8.out.old).mono ?_
      rintro e w4 ⟨a1, c1, rfl, ho, hb⟩
      clear f0 f1 f2 f3 f4 f5 f6
      have S9 := Lib.hid (show Sl.Sep w _ [_, _, _, _, Bag.bag ([(LI.mk ⟨kd, n, t⟩ a1 c1 l).row])] from Bag.push_bag S8.out hb ho)
      clear S8
      clear hb ho
      obtain ⟨f0, f1, f2⟩ := Bag.cs3 S9.out 0 rfl
      obtain ⟨f3, f4, f5, f6⟩ := HK.out _ S9.out.old
      have S10 := Lib.hid (show Sl.Sep w _ [_, _, _, _, _, Sv.ownV 135 4 (some ⟨w4.heap.size, 0, none⟩) 1 1 (cellsI [⟨⟨kd, n, t⟩, a1, c1, l⟩])] from Sv.push_own S9.out ((Below.refl _ _).alloc (Nat.le_refl _) _) (OwnV.madeAt w4 135 4 1 w4.heap.size #[.int .i64 kd, .int .i64 n, .string t, .slice a1 l.length c1] rfl (Nat.le_refl _) rfl (by decide)))
      clear S9
      go_upto_region 12 with (at_builtin; refine L5.wpList_append_v S10.out 3 rfl rfl _ _ 68 (by rfl) i0 (.agg #[.int .i64 0, .int .i64 0, .string ⟨#[]⟩, .slice none 0 0]) 56 Tryz.underlying68 HI.out.1 HI.out.2.1 HI.out.2.2.1 HI.out.2.2.2 rfl (by omega) _ (by rfl) rfl _ _ 1 _ _ (cellsI [⟨⟨kd, n, t⟩, a1, c1, l⟩]) (by rfl) rfl (Sv.own_at S10.out 5 rfl).reads rfl (cellsI_one _) (by unfold maxLen; omega) (by omega) ?_; intro a3' c3' w5 hA)
      have S11 := Lib.hid (show Sl.Sep w _ [_, _, _, Sv.ownV 135 4 a3' c3' (j + 1) (cellsI (ys.take j) ++ (cellsI [⟨⟨kd, n, t⟩, a1, c1, l⟩])), _, _] from hA)
      clear S10
      clear hA
      clear f0 f1 f2 f3 f4 f5 f6
      have S12 := Lib.hid (show Sl.Sep w _ [_, _, _, _, _] from Bag.take S11.out [0, 1, 2, 3, 4] (by rfl) (by decide))
      clear S11
      go_wp2_with (at_builtin; refine L5.wpList_append_v S12.out 3 rfl rfl _ _ 68 (by rfl) i0 (.agg #[.int .i64 0, .int .i64 0, .string ⟨#[]⟩, .slice none 0 0]) 56 Tryz.underlying68 HI.out.1 HI.out.2.1 HI.out.2.2.1 HI.out.2.2.2 rfl (by omega) _ (by rfl) rfl _ _ 0 _ _ (cellsI []) (by rfl) rfl (Sl.Reads.nil (B := 0)) rfl (cellsI_one _) (by unfold maxLen; omega) (by omega) ?_; intro a4' c4' w6 hA)
      have S13 := Lib.hid (show Sl.Sep w _ [_, _, _, Sv.ownV 135 4 a4' c4' (j + 1 + 0) ((cellsI (ys.take j) ++ (cellsI [⟨⟨kd, n, t⟩, a1, c1, l⟩])) ++ cellsI []), _] from hA)
      clear S12
      clear hA
      have S14 := Lib.hid (show Sl.Sep w _ [_, _, _, _] from Bag.take S13.out [0, 3, 2, 4] (by rfl) (by decide))
      clear S13
      have S15 := Lib.hid (show Sl.Sep w _ [_, _, Bag.bag (rowsI ys ++ ([(LI.mk ⟨kd, n, t⟩ a1 c1 l).row])), Bag.bag ([])] from Bag.bag_join S14.out 2 3 (by decide) rfl rfl)
      clear S14
      have S16 := Lib.hid (show Sl.Sep w _ [_, _, _] from Bag.take S15.out [0, 1, 2] (by rfl) (by decide))
      clear S15
      have S17 := Lib.hid (show Sl.Sep w _ [L4.boxR w.heap.size 70 #[.string name, .slice (some ad) N c, .int .i64 auto], Sv.ownV 135 4 a4' c4' (j + 1 + 0) ((cellsI (ys.take j) ++ (cellsI [⟨⟨kd, n, t⟩, a1, c1, l⟩])) ++ cellsI []), Bag.bag (rowsI (ys.take j ++ ⟨⟨kd, n, t⟩, a1, c1, l⟩ :: ys.drop j))] from Bag.bag_perm S16.out 2 rfl (rowsI_ins ys j ⟨⟨kd, n, t⟩, a1, c1, l⟩))
      clear S16
      have hlz : (ys.take j ++ ⟨⟨kd, n, t⟩, a1, c1, l⟩ :: ys.drop j).length = j + 1 := by rw [List.length_append, List.length_cons, List.length_take, List.length_drop]; have := HML.out; omega
      have hcz : cellsI (ys.take j ++ ⟨⟨kd, n, t⟩, a1, c1, l⟩ :: ys.drop j) = (cellsI (ys.take j) ++ (cellsI [⟨⟨kd, n, t⟩, a1, c1, l⟩])) ++ cellsI [] := by rw [cellsI_append, cellsI_cons]; rw [List.drop_of_length_le (show ys.length ≤ j by have := HML.out; omega)]; simp [cellsI, LI.cells]
      have HCZ := Lib.hid hcz
      clear hcz
      have S18 := Lib.hid (show Sl.Sep w _ [_, Sv.ownV 135 4 a4' c4' (j + 1 + 0) (cellsI (ys.take j ++ ⟨⟨kd, n, t⟩, a1, c1, l⟩ :: ys.drop j)), _] from (by rw [HCZ.out]; exact S17.out))
      clear S17
      have S19 := Lib.hid (show Sl.Sep w _ [_, Sv.ownV 135 4 a4' c4' (j + 1) (cellsI (ys.take j ++ ⟨⟨kd, n, t⟩, a1, c1, l⟩ :: ys.drop j)), _] from S18.out)
      clear S18
      go_roundw
      case rel =>
       refine ⟨k + 1, j + 1, a4', c4', ys.take j ++ ⟨⟨kd, n, t⟩, a1, c1, l⟩ :: ys.drop j, by omega, by go_num, ?_, by omega, And.intro ⟨hlz.symm, ?_⟩ S19.out⟩
       ·
        first | rfl | simp
       ·
        rw [HT.out, conI_ins, HC.out.2]; unfold insX; rw [← HC.out.2, conI_length, ← HML.out, HBP.out]; rfl
      case measure => simp [intOf]; omega
     ·
      skip
      obtain ⟨g9, rfl⟩ : ∃ g, A = some ⟨g, 0, none⟩ := by
       rcases (Sv.own_at S6.out 1 rfl).form with ⟨_, h0, _⟩ | ⟨g, e, _⟩
       ·
        omega
       ·
        exact ⟨g, e⟩
      have hcap : j ≤ C := by have := (Sv.own_at S6.out 1 rfl).cap; omega
      have hck : (j : Int) ≤ (C : Int) := by omega
      have S7 := Lib.hid (show Sl.Sep w _ [L4.boxR w.heap.size 70 #[.string name, .slice (some ad) N c, .int .i64 auto], Sv.ownV 135 4 (some ⟨g9, 0, none⟩) C m (cellsI ys), Bag.bag (rowsI ys), Sv.ownV 135 4 (some ⟨ww.heap.size, 0, none⟩) 0 0 (cellsI [])] from Sv.push_own S6.out ((Below.refl _ _).alloc (Nat.le_refl _) _) (OwnV.madeAt ww 135 4 0 ww.heap.size #[] rfl (Nat.le_refl _) rfl (by decide)))
      clear S6
      obtain ⟨f0, f1, f2⟩ := Bag.cs3 S7.out 0 rfl
      obtain ⟨f3, f4, f5, f6⟩ := HK.out _ S7.out.old
      go_upto_region 11 with (at_builtin; refine L5.wpList_append_v S7.out 3 rfl rfl _ _ 68 (by rfl) i0 (.agg #[.int .i64 0, .int .i64 0, .string ⟨#[]⟩, .slice none 0 0]) 56 Tryz.underlying68 HI.out.1 HI.out.2.1 HI.out.2.2.1 HI.out.2.2.2 rfl (by omega) _ (by rfl) rfl _ _ j _ _ (cellsI (ys.take j)) (by rfl) rfl (reads_head (Sv.own_at S7.out 1 rfl).reads j) (by rw [cellsI_length, List.length_take, Nat.min_eq_left hjy]) (cellsI_one _) (by unfold maxLen; omega) (by omega) ?_; intro a2' c2' w3 hA)
      clear f0 f1 f2 f3 f4 f5 f6
      have S8 := Lib.hid (show Sl.Sep w w3 [L4.boxR w.heap.size 70 #[.string name, .slice (some ad) N c, .int .i64 auto], Sv.ownV 135 4 (some ⟨g9, 0, none⟩) C m (cellsI ys), Bag.bag (rowsI ys), Sv.ownV 135 4 a2' c2' j (cellsI (ys.take j))] from (by have h := hA; first | exact h | (rw [Nat.zero_add] at h; exact h)))
      clear S7
      clear hA
      obtain ⟨f0, f1, f2⟩ := Bag.cs3 S8.out 0 rfl
      obtain ⟨f3, f4, f5, f6⟩ := HK.out _ S8.out.old
      go_wp2_with fail
      go_at_call 84
      refine (HCI.out _ S8.out.old).mono ?_
      rintro e w4 ⟨a1, c1, rfl, ho, hb⟩
      clear f0 f1 f2 f3 f4 f5 f6
      have S9 := Lib.hid (show Sl.Sep w _ [_, _, _, _, Bag.bag ([(LI.mk ⟨kd, n, t⟩ a1 c1 l).row])] from Bag.push_bag S8.out hb ho)
      clear S8
      clear hb ho
      obtain ⟨f0, f1, f2⟩ := Bag.cs3 S9.out 0 rfl
      obtain ⟨f3, f4, f5, f6⟩ := HK.out _ S9.out.old
      have S10 := Lib.hid (show Sl.Sep w _ [_, _, _, _, _, Sv.ownV 135 4 (some ⟨w4.heap.size, 0, none⟩) 1 1 (cellsI [⟨⟨kd, n, t⟩, a1, c1, l⟩])] from Sv.push_own S9.out ((Below.refl _ _).alloc (Nat.le_refl _) _) (OwnV.madeAt w4 135 4 1 w4.heap.size #[.int .i64 kd, .int .i64 n, .string t, .slice a1 l.length c1] rfl (Nat.le_refl _) rfl (by decide)))
      clear S9
      go_upto_region 12 with (at_builtin; refine L5.wpList_append_v S10.out 3 rfl rfl _ _ 68 (by rfl) i0 (.agg #[.int .i64 0, .int .i64 0, .string ⟨#[]⟩, .slice none 0 0]) 56 Tryz.underlying68 HI.out.1 HI.out.2.1 HI.out.2.2.1 HI.out.2.2.2 rfl (by omega) _ (by rfl) rfl _ _ 1 _ _ (cellsI [⟨⟨kd, n, t⟩, a1, c1, l⟩]) (by rfl) rfl (Sv.own_at S10.out 5 rfl).reads rfl (cellsI_one _) (by unfold maxLen; omega) (by omega) ?_; intro a3' c3' w5 hA)
      have S11 := Lib.hid (show Sl.Sep w _ [_, _, _, Sv.ownV 135 4 a3' c3' (j + 1) (cellsI (ys.take j) ++ (cellsI [⟨⟨kd, n, t⟩, a1, c1, l⟩])), _, _] from hA)
      clear S10
      clear hA
      clear f0 f1 f2 f3 f4 f5 f6
      have S12 := Lib.hid (show Sl.Sep w _ [_, _, _, _, _] from Bag.take S11.out [0, 1, 2, 3, 4] (by rfl) (by decide))
      clear S11
      have hcl := (Sv.own_at S12.out 1 rfl).cap
      have hkN : (j : Int) ≤ (m : Int) := by omega
      have hNc : (m : Int) ≤ (C : Int) := by omega
      go_wp2_with (at_builtin; refine L5.wpList_append_v S12.out 3 rfl rfl _ _ 68 (by rfl) i0 (.agg #[.int .i64 0, .int .i64 0, .string ⟨#[]⟩, .slice none 0 0]) 56 Tryz.underlying68 HI.out.1 HI.out.2.1 HI.out.2.2.1 HI.out.2.2.2 rfl (by omega) _ (by rfl) rfl _ _ (m - j) _ _ (cellsI (ys.drop j)) (by rfl) rfl (reads_rest2 (Sv.own_at S12.out 1 rfl).reads j) (by rw [cellsI_length, List.length_drop]; have := HML.out; omega) (cellsI_one _) (by unfold maxLen; omega) (by omega) ?_; intro a4' c4' w6 hA)
      have S13 := Lib.hid (show Sl.Sep w _ [_, _, _, Sv.ownV 135 4 a4' c4' (j + 1 + (m - j)) ((cellsI (ys.take j) ++ (cellsI [⟨⟨kd, n, t⟩, a1, c1, l⟩])) ++ cellsI (ys.drop j)), _] from hA)
      clear S12
      clear hA
      have S14 := Lib.hid (show Sl.Sep w _ [_, _, _, _] from Bag.take S13.out [0, 3, 2, 4] (by rfl) (by decide))
      clear S13
      have S15 := Lib.hid (show Sl.Sep w _ [_, _, Bag.bag (rowsI ys ++ ([(LI.mk ⟨kd, n, t⟩ a1 c1 l).row])), Bag.bag ([])] from Bag.bag_join S14.out 2 3 (by decide) rfl rfl)
      clear S14
      have S16 := Lib.hid (show Sl.Sep w _ [_, _, _] from Bag.take S15.out [0, 1, 2] (by rfl) (by decide))
      clear S15
      have S17 := Lib.hid (show Sl.Sep w _ [L4.boxR w.heap.size 70 #[.string name, .slice (some ad) N c, .int .i64 auto], Sv.ownV 135 4 a4' c4' (j + 1 + (m - j)) ((cellsI (ys.take j) ++ (cellsI [⟨⟨kd, n, t⟩, a1, c1, l⟩])) ++ cellsI (ys.drop j)), Bag.bag (rowsI (ys.take j ++ ⟨⟨kd, n, t⟩, a1, c1, l⟩ :: ys.drop j))] from Bag.bag_perm S16.out 2 rfl (rowsI_ins ys j ⟨⟨kd, n, t⟩, a1, c1, l⟩))
      clear S16
      have hlz : (ys.take j ++ ⟨⟨kd, n, t⟩, a1, c1, l⟩ :: ys.drop j).length = j + 1 + (m - j) := by rw [List.length_append, List.length_cons, List.length_take, List.length_drop]; have := HML.out; omega
      have hcz : cellsI (ys.take j ++ ⟨⟨kd, n, t⟩, a1, c1, l⟩ :: ys.drop j) = (cellsI (ys.take j) ++ (cellsI [⟨⟨kd, n, t⟩, a1, c1, l⟩])) ++ cellsI (ys.drop j) := by rw [cellsI_append, cellsI_cons]; simp [cellsI, LI.cells]
      have HCZ := Lib.hid hcz
      clear hcz
      have S18 := Lib.hid (show Sl.Sep w _ [_, Sv.ownV 135 4 a4' c4' (j + 1 + (m - j)) (cellsI (ys.take j ++ ⟨⟨kd, n, t⟩, a1, c1, l⟩ :: ys.drop j)), _] from (by rw [HCZ.out]; exact S17.out))
      clear S17
      go_roundw
      case rel =>
       refine ⟨k + 1, j + 1 + (m - j), a4', c4', ys.take j ++ ⟨⟨kd, n, t⟩, a1, c1, l⟩ :: ys.drop j, by omega, by go_num, ?_, by omega, And.intro ⟨hlz.symm, ?_⟩ S18.out⟩
       ·
        first | rfl | simp
       ·
        rw [HT.out, conI_ins, HC.out.2]; unfold insX; rw [← HC.out.2, conI_length, ← HML.out, HBP.out]; rfl
      case measure => simp [intOf]; omega
  ·
   skip
   obtain ⟨f0, f1, f2⟩ := Bag.cs3 S4.out 0 rfl
   go_wp2_with fail
   go_ret
   obtain rfl : k = N := by omega
   obtain ⟨hm, hc⟩ := HC.out
   rw [List.take_of_length_le (show (conI xs).length ≤ k by have := HN.out; simp; omega)] at hc
   subst hm
   have S90 := Lib.hid (Bag.bag_of_one S4.out 1 (r := rowI A C ys) rfl)
   have S91 := Lib.hid (Bag.bag_join S90.out 1 2 (by decide) rfl rfl)
   exact ⟨A, C, ys, rfl, hc, Bag.bag_from S91.out 1 rfl, S91.out.old⟩
end Go.Proofs.YthljdhfgphebnaaGreat.L7

namespace Go.Proofs.YthljdhfgphebnaaGreat.L7
open L4 (K isK cmpK R inR encU)
open L5 (F isR isN cellsF encR eqR Small getO getN getB)
open L6
open Go.ChangeShapes Go.WideShapes Go.ChangeAt Go.RowKit Mem Sl Ex L2 Sv Bag

structure FitC (x : Cu) : Prop where
 lo : x.r.lo.text.size ≤ 281474976710656
 hi : x.r.hi.text.size ≤ 281474976710656
 at_ : x.k.text.size ≤ 281474976710656

end Go.Proofs.YthljdhfgphebnaaGreat.L7

set_option linter.unusedSimpArgs false
namespace Go.Proofs.YthljdhfgphebnaaGreat.L7
open L4 (K isK cmpK R inR encU)
open L5 (F isR isN cellsF encR eqR Small getO getN getB)
open L6
open Go.ChangeShapes Go.WideShapes Go.ChangeAt Go.RowKit Mem Sl Ex L2 Sv Bag

theorem adj_at {t : List UInt8} {l : List It} {j : Nat} {a b : It} (h1 : l[j]? = some a) (h2 : l[j + 1]? = some b) : adj7 t l j = (getN a.l t == getN b.l t) := by
 unfold adj7
 rw [h1, h2]
theorem keyAt_of {l : List It} {j : Nat} {a : It} (h : l[j]? = some a) : keyAt l j = a.k := by unfold keyAt; rw [h]
theorem uf_no {t : List UInt8} {l : List It} (h : ufO t l = none) : ufA t l = zK ∧ ufZ t l = zK ∧ ufB t l = false := by unfold ufA ufZ ufB; rw [h]; exact ⟨rfl, rfl, rfl⟩
theorem uf_yes {t : List UInt8} {l : List It} {j : Nat} {a b : It} (h : ufO t l = some j) (h1 : l[j]? = some a) (h2 : l[j + 1]? = some b) : ufA t l = a.k ∧ ufZ t l = b.k ∧ ufB t l = true := by
 unfold ufA ufZ ufB
 rw [h]
 exact ⟨keyAt_of h1, keyAt_of h2, rfl⟩
theorem FitC.to {x : Cu} (h : FitC x) (k : K) (hk : k.text.size ≤ 281474976710656) : FitC (x.to k) := ⟨h.lo, h.hi, hk⟩
set_option maxHeartbeats 8000000 in
theorem specUniqueFault_any (y : LS) (f : ByteArray) (hf : FitS y.con) (w : World) (hr : RowsRd w w.heap.size y.rows) :
  Calls Tryz.prog 64 #[y.v, .string f] w fun e w' => e = .returned (.tuple #[(ufA f.data.toList (idxI y.con.items f.data.toList)).v, (ufZ f.data.toList (idxI y.con.items f.data.toList)).v, .bool (ufB f.data.toList (idxI y.con.items f.data.toList))]) ∧ Below w.heap.size w w' := by
 have HIX := Lib.hid (fun w' (h : Below w.heap.size w w') => specIndexOn_any y f hf w' ((hr.below h).more h.size))
 have HFX := Lib.hid (fit_idx (t := f.data.toList) hf.items)
 have HLN := Lib.hid (Nat.le_trans (idxI_len y.con.items f.data.toList) hf.len)
 obtain ⟨L, hL⟩ : ∃ u, idxI y.con.items f.data.toList = u := ⟨_, rfl⟩
 rw [hL] at HIX HFX HLN ⊢
 clear hL
 obtain ⟨name, a, c, xs, auto⟩ := y
 dsimp only [LS.v, LS.cells] at HIX ⊢
 have S1 := Lib.hid (show Sl.Sep w _ [_, _, _] from L4.push_box (L4.push_box (L4.push_box (Sl.Sep.start w) 70 #[.string name, .slice a xs.length c, .int .i64 auto] (w.heap.size) (by simp)) 110 #[.int .i64 0, .int .i64 0, .string ⟨#[]⟩] (w.heap.size + 1) (by simp)) 110 #[.int .i64 0, .int .i64 0, .string ⟨#[]⟩] (w.heap.size + 1 + 1) (by simp))
 obtain ⟨wa, hwa⟩ : ∃ u, u = (((w.alloc (.cells #[.string name, .slice a xs.length c, .int .i64 auto] 70)).alloc (.cells #[.int .i64 0, .int .i64 0, .string ⟨#[]⟩] 110)).alloc (.cells #[.int .i64 0, .int .i64 0, .string ⟨#[]⟩] 110)) := ⟨_, rfl⟩
 rw [← hwa] at S1
 go_enter Tryz.func64, Tryz.ntmps64
 go_upto_region 1 with fail
 rw [← hwa]
 clear hwa
 obtain ⟨f0, f1, f2⟩ := Bag.cs3 S1.out 0 rfl
 go_wp2_with fail
 go_at_call 97
 refine (HIX.out _ S1.out.old).mono ?_
 rintro e w1 ⟨la, lc, ys, rfl, hys, ho, hb⟩
 clear f0 f1 f2
 have S2 := Lib.hid (show Sl.Sep w _ [_, _, _, Bag.bag (rowI la lc ys :: rowsI ys)] from Bag.push_bag S1.out hb ho)
 clear S1
 clear hb ho
 have HY := Lib.hid hys
 clear hys
 obtain ⟨N, hN⟩ : ∃ N, N = ys.length := ⟨_, rfl⟩
 rw [← hN]
 have HN := Lib.hid hN
 have hNl : N ≤ 1048576 := by have h := HLN.out; rw [← HY.out, conI_length] at h; omega
 clear hN
 go_wp2_with fail
 go_loopw [8] (fun i wr => ∃ j : Nat, (j + 1 ≤ N ∨ j = 0) ∧ i = .int .i64 ((j + 1 : Nat) : Int) ∧ Hid ((∀ q, q < j → adj7 f.data.toList (conI ys) q = false) ∧ Sl.Sep w wr [L4.boxR w.heap.size 70 #[.string name, .slice a xs.length c, .int .i64 auto], L4.boxR (w.heap.size + 1) 110 #[.int .i64 0, .int .i64 0, .string ⟨#[]⟩], L4.boxR (w.heap.size + 1 + 1) 110 #[.int .i64 0, .int .i64 0, .string ⟨#[]⟩], Bag.bag (rowI la lc ys :: rowsI ys)])) (fun i _ => N - (intOf i).toNat)
 case atStart => exact ⟨0, .inr rfl, rfl, And.intro (fun q hq => absurd hq (by omega)) S2.out⟩
 case round =>
  obtain ⟨j, hj, rfl, hrel⟩ := hrel
  have HA := Lib.hid hrel.out.1
  have S3 := Lib.hid hrel.out.2
  clear hrel S2
  by_cases hlt : ((j + 1 : Nat) : Int) < (N : Int)
  ·
   skip
   obtain ⟨ad, x1, e', hx1⟩ := readsI_some (LS.outer (s := ⟨⟨#[]⟩, la, lc, ys, 0⟩) (Bag.bag_rd S3.out 3 rfl)) j (by show j < ys.length; have := HN.out; omega)
   have e'' : la = some ad := e'
   subst e''
   clear e'
   obtain ⟨ad_, x2, e_, hx2⟩ := readsI_some (LS.outer (s := ⟨⟨#[]⟩, some ad, lc, ys, 0⟩) (Bag.bag_rd S3.out 3 rfl)) (j + 1) (by show j + 1 < ys.length; have := HN.out; omega)
   clear ad_ e_
   obtain ⟨⟨kd, n, t⟩, ia, ic, l⟩ := x1
   obtain ⟨⟨kd2, n2, t2⟩, ia2, ic2, l2⟩ := x2
   have HX1 := Lib.hid hx1
   have HX2 := Lib.hid hx2
   have HC1 := Lib.hid (show (conI ys)[j]? = some (⟨⟨kd, n, t⟩, l⟩ : It) from con_of hx1)
   have HC2 := Lib.hid (show (conI ys)[j + 1]? = some (⟨⟨kd2, n2, t2⟩, l2⟩ : It) from con_of hx2)
   clear hx1 hx2
   have HF1 := Lib.hid (show FitI ⟨⟨kd, n, t⟩, l⟩ from HFX.out _ (by rw [← HY.out]; exact List.mem_of_getElem? HC1.out))
   have HF2 := Lib.hid (show FitI ⟨⟨kd2, n2, t2⟩, l2⟩ from HFX.out _ (by rw [← HY.out]; exact List.mem_of_getElem? HC2.out))
   obtain ⟨na, hna⟩ : ∃ u, getN l f.data.toList = u := ⟨_, rfl⟩
   obtain ⟨nb, hnb⟩ : ∃ u, getN l2 f.data.toList = u := ⟨_, rfl⟩
   have HNA := Lib.hid hna
   have HNB := Lib.hid hnb
   have HAD := Lib.hid (show adj7 f.data.toList (conI ys) j = (na == nb) from by rw [adj_at HC1.out HC2.out]; dsimp only; rw [hna, hnb])
   clear hna hnb
   have hj1 : (0 : Int) ≤ (j : Int) + 1 := by omega
   have hsub : ((j + 1 : Nat) : Int) - 1 = (j : Int) := by omega
   have hjm : (j : Int) < (N : Int) := by omega
   have hwr : IntKind.i64.wrap (j : Int) = (j : Int) := IntWalk.i64_in _ ⟨by omega, by omega⟩
   have f0 : World.cell? _ (ad.add (j * 4)) = some (.int .i64 kd) := (readsI_at (LS.outer (s := ⟨⟨#[]⟩, some ad, lc, ys, 0⟩) (Bag.bag_rd S3.out 3 rfl)) j _ HX1.out).1
   have f1 : World.cell? _ (⟨(ad.add (j * 4)).block, (ad.add (j * 4)).off + 1, none⟩) = some (.int .i64 n) := (readsI_at (LS.outer (s := ⟨⟨#[]⟩, some ad, lc, ys, 0⟩) (Bag.bag_rd S3.out 3 rfl)) j _ HX1.out).2.1
   have f2 : World.cell? _ (⟨(ad.add (j * 4)).block, (ad.add (j * 4)).off + 2, none⟩) = some (.string t) := (readsI_at (LS.outer (s := ⟨⟨#[]⟩, some ad, lc, ys, 0⟩) (Bag.bag_rd S3.out 3 rfl)) j _ HX1.out).2.2.1
   have f3 : World.cell? _ (⟨(ad.add (j * 4)).block, (ad.add (j * 4)).off + 3, none⟩) = some (.slice ia l.length ic) := (readsI_at (LS.outer (s := ⟨⟨#[]⟩, some ad, lc, ys, 0⟩) (Bag.bag_rd S3.out 3 rfl)) j _ HX1.out).2.2.2
   have f4 : World.cell? _ (ad.add ((j + 1) * 4)) = some (.int .i64 kd2) := (readsI_at (LS.outer (s := ⟨⟨#[]⟩, some ad, lc, ys, 0⟩) (Bag.bag_rd S3.out 3 rfl)) (j + 1) _ HX2.out).1
   have f5 : World.cell? _ (⟨(ad.add ((j + 1) * 4)).block, (ad.add ((j + 1) * 4)).off + 1, none⟩) = some (.int .i64 n2) := (readsI_at (LS.outer (s := ⟨⟨#[]⟩, some ad, lc, ys, 0⟩) (Bag.bag_rd S3.out 3 rfl)) (j + 1) _ HX2.out).2.1
   have f6 : World.cell? _ (⟨(ad.add ((j + 1) * 4)).block, (ad.add ((j + 1) * 4)).off + 2, none⟩) = some (.string t2) := (readsI_at (LS.outer (s := ⟨⟨#[]⟩, some ad, lc, ys, 0⟩) (Bag.bag_rd S3.out 3 rfl)) (j + 1) _ HX2.out).2.2.1
   have f7 : World.cell? _ (⟨(ad.add ((j + 1) * 4)).block, (ad.add ((j + 1) * 4)).off + 3, none⟩) = some (.slice ia2 l2.length ic2) := (readsI_at (LS.outer (s := ⟨⟨#[]⟩, some ad, lc, ys, 0⟩) (Bag.bag_rd S3.out 3 rfl)) (j + 1) _ HX2.out).2.2.2
   have HC := L5.specGetField_any ia ic l f (by have : l.length ≤ 1048576 := HF1.out.len; omega) wr (((LS.inner (s := ⟨⟨#[]⟩, some ad, lc, ys, 0⟩) (Bag.bag_rd S3.out 3 rfl)).at_ (rowsI_mem HX1.out)).reads)
   rw [HNA.out] at HC
   go_wp2_with fail
   go_at_call 98
   refine HC.mono ?_
   clear HC
   rintro e w2 ⟨rfl, hb⟩
   clear f0 f1 f2 f3 f4 f5 f6 f7
   have S4 := Lib.hid (S3.out.keep hb)
   clear S3
   clear hb
   have f0 : World.cell? _ (ad.add (j * 4)) = some (.int .i64 kd) := (readsI_at (LS.outer (s := ⟨⟨#[]⟩, some ad, lc, ys, 0⟩) (Bag.bag_rd S4.out 3 rfl)) j _ HX1.out).1
   have f1 : World.cell? _ (⟨(ad.add (j * 4)).block, (ad.add (j * 4)).off + 1, none⟩) = some (.int .i64 n) := (readsI_at (LS.outer (s := ⟨⟨#[]⟩, some ad, lc, ys, 0⟩) (Bag.bag_rd S4.out 3 rfl)) j _ HX1.out).2.1
   have f2 : World.cell? _ (⟨(ad.add (j * 4)).block, (ad.add (j * 4)).off + 2, none⟩) = some (.string t) := (readsI_at (LS.outer (s := ⟨⟨#[]⟩, some ad, lc, ys, 0⟩) (Bag.bag_rd S4.out 3 rfl)) j _ HX1.out).2.2.1
   have f3 : World.cell? _ (⟨(ad.add (j * 4)).block, (ad.add (j * 4)).off + 3, none⟩) = some (.slice ia l.length ic) := (readsI_at (LS.outer (s := ⟨⟨#[]⟩, some ad, lc, ys, 0⟩) (Bag.bag_rd S4.out 3 rfl)) j _ HX1.out).2.2.2
   have f4 : World.cell? _ (ad.add ((j + 1) * 4)) = some (.int .i64 kd2) := (readsI_at (LS.outer (s := ⟨⟨#[]⟩, some ad, lc, ys, 0⟩) (Bag.bag_rd S4.out 3 rfl)) (j + 1) _ HX2.out).1
   have f5 : World.cell? _ (⟨(ad.add ((j + 1) * 4)).block, (ad.add ((j + 1) * 4)).off + 1, none⟩) = some (.int .i64 n2) := (readsI_at (LS.outer (s := ⟨⟨#[]⟩, some ad, lc, ys, 0⟩) (Bag.bag_rd S4.out 3 rfl)) (j + 1) _ HX2.out).2.1
   have f6 : World.cell? _ (⟨(ad.add ((j + 1) * 4)).block, (ad.add ((j + 1) * 4)).off + 2, none⟩) = some (.string t2) := (readsI_at (LS.outer (s := ⟨⟨#[]⟩, some ad, lc, ys, 0⟩) (Bag.bag_rd S4.out 3 rfl)) (j + 1) _ HX2.out).2.2.1
   have f7 : World.cell? _ (⟨(ad.add ((j + 1) * 4)).block, (ad.add ((j + 1) * 4)).off + 3, none⟩) = some (.slice ia2 l2.length ic2) := (readsI_at (LS.outer (s := ⟨⟨#[]⟩, some ad, lc, ys, 0⟩) (Bag.bag_rd S4.out 3 rfl)) (j + 1) _ HX2.out).2.2.2
   have HC := L5.specGetField_any ia2 ic2 l2 f (by have : l2.length ≤ 1048576 := HF2.out.len; omega) w2 (((LS.inner (s := ⟨⟨#[]⟩, some ad, lc, ys, 0⟩) (Bag.bag_rd S4.out 3 rfl)).at_ (rowsI_mem HX2.out)).reads)
   rw [HNB.out] at HC
   go_wp2_with fail
   go_at_call 98
   refine HC.mono ?_
   clear HC
   rintro e w3 ⟨rfl, hb⟩
   clear f0 f1 f2 f3 f4 f5 f6 f7
   have S5 := Lib.hid (S4.out.keep hb)
   clear S4
   clear hb
   by_cases he : na = nb
   ·
    have he' : (na == nb) = true := by simp [he]
    go_upto_region 8 with fail
    refine wp_region_held_drew (S := (fun w' => w'.cell? (ad.add (j * 4)) = some (.int .i64 kd) ∧ w'.cell? (⟨(ad.add (j * 4)).block, (ad.add (j * 4)).off + 1, none⟩) = some (.int .i64 n) ∧ w'.cell? (⟨(ad.add (j * 4)).block, (ad.add (j * 4)).off + 2, none⟩) = some (.string t) ∧ w'.cell? (⟨(ad.add (j * 4)).block, (ad.add (j * 4)).off + 3, none⟩) = some (.slice ia l.length ic) ∧ w'.cell? (ad.add ((j + 1) * 4)) = some (.int .i64 kd2) ∧ w'.cell? (⟨(ad.add ((j + 1) * 4)).block, (ad.add ((j + 1) * 4)).off + 1, none⟩) = some (.int .i64 n2) ∧ w'.cell? (⟨(ad.add ((j + 1) * 4)).block, (ad.add ((j + 1) * 4)).off + 2, none⟩) = some (.string t2) ∧ w'.cell? (⟨(ad.add ((j + 1) * 4)).block, (ad.add ((j + 1) * 4)).off + 3, none⟩) = some (.slice ia2 l2.length ic2))) (by kernel_rfl) ⟨(readsI_at (LS.outer (s := ⟨⟨#[]⟩, some ad, lc, ys, 0⟩) (Bag.bag_rd (Bag.drew1 S5.out) 3 rfl)) j _ HX1.out).1, (readsI_at (LS.outer (s := ⟨⟨#[]⟩, some ad, lc, ys, 0⟩) (Bag.bag_rd (Bag.drew1 S5.out) 3 rfl)) j _ HX1.out).2.1, (readsI_at (LS.outer (s := ⟨⟨#[]⟩, some ad, lc, ys, 0⟩) (Bag.bag_rd (Bag.drew1 S5.out) 3 rfl)) j _ HX1.out).2.2.1, (readsI_at (LS.outer (s := ⟨⟨#[]⟩, some ad, lc, ys, 0⟩) (Bag.bag_rd (Bag.drew1 S5.out) 3 rfl)) j _ HX1.out).2.2.2, (readsI_at (LS.outer (s := ⟨⟨#[]⟩, some ad, lc, ys, 0⟩) (Bag.bag_rd (Bag.drew1 S5.out) 3 rfl)) (j + 1) _ HX2.out).1, (readsI_at (LS.outer (s := ⟨⟨#[]⟩, some ad, lc, ys, 0⟩) (Bag.bag_rd (Bag.drew1 S5.out) 3 rfl)) (j + 1) _ HX2.out).2.1, (readsI_at (LS.outer (s := ⟨⟨#[]⟩, some ad, lc, ys, 0⟩) (Bag.bag_rd (Bag.drew1 S5.out) 3 rfl)) (j + 1) _ HX2.out).2.2.1, (readsI_at (LS.outer (s := ⟨⟨#[]⟩, some ad, lc, ys, 0⟩) (Bag.bag_rd (Bag.drew1 S5.out) 3 rfl)) (j + 1) _ HX2.out).2.2.2⟩ (fun hS => ?_)
    have S6 := Lib.hid (Bag.drew1 S5.out)
    clear S5
    generalize World.drew _ = w4 at hS S6 ⊢
    refine tk 0 rfl ?_
    try simp only [zp0, zp1, zp2, zp3, zp4]
    refine tk 1 rfl ?_
    try simp only [zp0, zp1, zp2, zp3, zp4]
    refine tk 2 rfl ?_
    try simp only [zp0, zp1, zp2, zp3, zp4]
    refine tk 3 rfl ?_
    try simp only [zp0, zp1, zp2, zp3, zp4]
    refine tk 4 rfl ?_
    try simp only [zp0, zp1, zp2, zp3, zp4]
    refine tk 5 rfl ?_
    try simp only [zp0, zp1, zp2, zp3, zp4]
    refine tk 6 rfl ?_
    try simp only [zp0, zp1, zp2, zp3, zp4]
    refine tk 7 rfl ?_
    try simp only [zp0, zp1, zp2, zp3, zp4]
    refine tk 8 rfl ?_
    try simp only [zp0, zp1, zp2, zp3, zp4]
    refine tk 9 rfl ?_
    try simp only [zp0, zp1, zp2, zp3, zp4]
    refine tk 10 rfl ?_
    try simp only [zp0, zp1, zp2, zp3, zp4]
    refine Reg.one_op (i := 11) rfl (by kernel_rfl) (fun K hK => ?_)
    obtain ⟨f0, f1, f2⟩ := Bag.cs3 S6.out 1 rfl
    obtain ⟨z0, z1, z2⟩ := Bag.fs3 S6.out 1 rfl
    go_simp
    clear f0 f1 f2 z0 z1 z2
    have S7 := Lib.hid (show Sl.Sep w _ [_, L4.boxR (w.heap.size + 1) 110 #[.int .i64 kd, .int .i64 n, .string t], _, _] from L5.put_box5 (L5.put_box5 (L5.put_box5 (S6.out) 1 rfl 0 (.int .i64 kd)) 1 rfl 1 (.int .i64 n)) 1 rfl 2 (.string t))
    clear S6
    refine hK.out _ _ ⟨(readsI_at (LS.outer (s := ⟨⟨#[]⟩, some ad, lc, ys, 0⟩) (Bag.bag_rd S7.out 3 rfl)) j _ HX1.out).1, (readsI_at (LS.outer (s := ⟨⟨#[]⟩, some ad, lc, ys, 0⟩) (Bag.bag_rd S7.out 3 rfl)) j _ HX1.out).2.1, (readsI_at (LS.outer (s := ⟨⟨#[]⟩, some ad, lc, ys, 0⟩) (Bag.bag_rd S7.out 3 rfl)) j _ HX1.out).2.2.1, (readsI_at (LS.outer (s := ⟨⟨#[]⟩, some ad, lc, ys, 0⟩) (Bag.bag_rd S7.out 3 rfl)) j _ HX1.out).2.2.2, (readsI_at (LS.outer (s := ⟨⟨#[]⟩, some ad, lc, ys, 0⟩) (Bag.bag_rd S7.out 3 rfl)) (j + 1) _ HX2.out).1, (readsI_at (LS.outer (s := ⟨⟨#[]⟩, some ad, lc, ys, 0⟩) (Bag.bag_rd S7.out 3 rfl)) (j + 1) _ HX2.out).2.1, (readsI_at (LS.outer (s := ⟨⟨#[]⟩, some ad, lc, ys, 0⟩) (Bag.bag_rd S7.out 3 rfl)) (j + 1) _ HX2.out).2.2.1, (readsI_at (LS.outer (s := ⟨⟨#[]⟩, some ad, lc, ys, 0⟩) (Bag.bag_rd S7.out 3 rfl)) (j + 1) _ HX2.out).2.2.2⟩ (fun hS => ?_)
    clear hK K
    try simp only [zp0, zp1, zp2, zp3, zp4]
    refine Reg.one_op (i := 12) rfl (by kernel_rfl) (fun K hK => ?_)
    obtain ⟨f0, f1, f2⟩ := Bag.cs3 S7.out 2 rfl
    obtain ⟨z0, z1, z2⟩ := Bag.fs3 S7.out 2 rfl
    go_simp
    clear f0 f1 f2 z0 z1 z2
    have S8 := Lib.hid (show Sl.Sep w _ [_, _, L4.boxR (w.heap.size + 1 + 1) 110 #[.int .i64 kd2, .int .i64 n2, .string t2], _] from L5.put_box5 (L5.put_box5 (L5.put_box5 (S7.out) 2 rfl 0 (.int .i64 kd2)) 2 rfl 1 (.int .i64 n2)) 2 rfl 2 (.string t2))
    clear S7
    refine hK.out _ _ ⟨(readsI_at (LS.outer (s := ⟨⟨#[]⟩, some ad, lc, ys, 0⟩) (Bag.bag_rd S8.out 3 rfl)) j _ HX1.out).1, (readsI_at (LS.outer (s := ⟨⟨#[]⟩, some ad, lc, ys, 0⟩) (Bag.bag_rd S8.out 3 rfl)) j _ HX1.out).2.1, (readsI_at (LS.outer (s := ⟨⟨#[]⟩, some ad, lc, ys, 0⟩) (Bag.bag_rd S8.out 3 rfl)) j _ HX1.out).2.2.1, (readsI_at (LS.outer (s := ⟨⟨#[]⟩, some ad, lc, ys, 0⟩) (Bag.bag_rd S8.out 3 rfl)) j _ HX1.out).2.2.2, (readsI_at (LS.outer (s := ⟨⟨#[]⟩, some ad, lc, ys, 0⟩) (Bag.bag_rd S8.out 3 rfl)) (j + 1) _ HX2.out).1, (readsI_at (LS.outer (s := ⟨⟨#[]⟩, some ad, lc, ys, 0⟩) (Bag.bag_rd S8.out 3 rfl)) (j + 1) _ HX2.out).2.1, (readsI_at (LS.outer (s := ⟨⟨#[]⟩, some ad, lc, ys, 0⟩) (Bag.bag_rd S8.out 3 rfl)) (j + 1) _ HX2.out).2.2.1, (readsI_at (LS.outer (s := ⟨⟨#[]⟩, some ad, lc, ys, 0⟩) (Bag.bag_rd S8.out 3 rfl)) (j + 1) _ HX2.out).2.2.2⟩ (fun hS => ?_)
    clear hK K
    try simp only [zp0, zp1, zp2, zp3, zp4]
    refine tk 13 rfl ?_
    try simp only [zp0, zp1, zp2, zp3, zp4]
    refine wpAnyH_done (by kernel_rfl) ?_ _
    obtain ⟨f0, f1, f2⟩ := Bag.cs3 S8.out 0 rfl
    obtain ⟨f3, f4, f5⟩ := Bag.cs3 S8.out 1 rfl
    obtain ⟨f6, f7, f8⟩ := Bag.cs3 S8.out 2 rfl
    have f9 : World.cell? _ (ad.add (j * 4)) = some (.int .i64 kd) := (readsI_at (LS.outer (s := ⟨⟨#[]⟩, some ad, lc, ys, 0⟩) (Bag.bag_rd S8.out 3 rfl)) j _ HX1.out).1
    have f10 : World.cell? _ (⟨(ad.add (j * 4)).block, (ad.add (j * 4)).off + 1, none⟩) = some (.int .i64 n) := (readsI_at (LS.outer (s := ⟨⟨#[]⟩, some ad, lc, ys, 0⟩) (Bag.bag_rd S8.out 3 rfl)) j _ HX1.out).2.1
    have f11 : World.cell? _ (⟨(ad.add (j * 4)).block, (ad.add (j * 4)).off + 2, none⟩) = some (.string t) := (readsI_at (LS.outer (s := ⟨⟨#[]⟩, some ad, lc, ys, 0⟩) (Bag.bag_rd S8.out 3 rfl)) j _ HX1.out).2.2.1
    have f12 : World.cell? _ (⟨(ad.add (j * 4)).block, (ad.add (j * 4)).off + 3, none⟩) = some (.slice ia l.length ic) := (readsI_at (LS.outer (s := ⟨⟨#[]⟩, some ad, lc, ys, 0⟩) (Bag.bag_rd S8.out 3 rfl)) j _ HX1.out).2.2.2
    have f13 : World.cell? _ (ad.add ((j + 1) * 4)) = some (.int .i64 kd2) := (readsI_at (LS.outer (s := ⟨⟨#[]⟩, some ad, lc, ys, 0⟩) (Bag.bag_rd S8.out 3 rfl)) (j + 1) _ HX2.out).1
    have f14 : World.cell? _ (⟨(ad.add ((j + 1) * 4)).block, (ad.add ((j + 1) * 4)).off + 1, none⟩) = some (.int .i64 n2) := (readsI_at (LS.outer (s := ⟨⟨#[]⟩, some ad, lc, ys, 0⟩) (Bag.bag_rd S8.out 3 rfl)) (j + 1) _ HX2.out).2.1
    have f15 : World.cell? _ (⟨(ad.add ((j + 1) * 4)).block, (ad.add ((j + 1) * 4)).off + 2, none⟩) = some (.string t2) := (readsI_at (LS.outer (s := ⟨⟨#[]⟩, some ad, lc, ys, 0⟩) (Bag.bag_rd S8.out 3 rfl)) (j + 1) _ HX2.out).2.2.1
    have f16 : World.cell? _ (⟨(ad.add ((j + 1) * 4)).block, (ad.add ((j + 1) * 4)).off + 3, none⟩) = some (.slice ia2 l2.length ic2) := (readsI_at (LS.outer (s := ⟨⟨#[]⟩, some ad, lc, ys, 0⟩) (Bag.bag_rd S8.out 3 rfl)) (j + 1) _ HX2.out).2.2.2
    clear f0 f1 f2 f3 f4 f5 f6 f7 f8 f9 f10 f11 f12 f13 f14 f15 f16
    obtain ⟨f0, f1, f2⟩ := Bag.cs3 S8.out 1 rfl
    obtain ⟨f3, f4, f5⟩ := Bag.cs3 S8.out 2 rfl
    have f6 : World.cell? _ (ad.add (j * 4)) = some (.int .i64 kd) := (readsI_at (LS.outer (s := ⟨⟨#[]⟩, some ad, lc, ys, 0⟩) (Bag.bag_rd S8.out 3 rfl)) j _ HX1.out).1
    have f7 : World.cell? _ (⟨(ad.add (j * 4)).block, (ad.add (j * 4)).off + 1, none⟩) = some (.int .i64 n) := (readsI_at (LS.outer (s := ⟨⟨#[]⟩, some ad, lc, ys, 0⟩) (Bag.bag_rd S8.out 3 rfl)) j _ HX1.out).2.1
    have f8 : World.cell? _ (⟨(ad.add (j * 4)).block, (ad.add (j * 4)).off + 2, none⟩) = some (.string t) := (readsI_at (LS.outer (s := ⟨⟨#[]⟩, some ad, lc, ys, 0⟩) (Bag.bag_rd S8.out 3 rfl)) j _ HX1.out).2.2.1
    have f9 : World.cell? _ (⟨(ad.add (j * 4)).block, (ad.add (j * 4)).off + 3, none⟩) = some (.slice ia l.length ic) := (readsI_at (LS.outer (s := ⟨⟨#[]⟩, some ad, lc, ys, 0⟩) (Bag.bag_rd S8.out 3 rfl)) j _ HX1.out).2.2.2
    have f10 : World.cell? _ (ad.add ((j + 1) * 4)) = some (.int .i64 kd2) := (readsI_at (LS.outer (s := ⟨⟨#[]⟩, some ad, lc, ys, 0⟩) (Bag.bag_rd S8.out 3 rfl)) (j + 1) _ HX2.out).1
    have f11 : World.cell? _ (⟨(ad.add ((j + 1) * 4)).block, (ad.add ((j + 1) * 4)).off + 1, none⟩) = some (.int .i64 n2) := (readsI_at (LS.outer (s := ⟨⟨#[]⟩, some ad, lc, ys, 0⟩) (Bag.bag_rd S8.out 3 rfl)) (j + 1) _ HX2.out).2.1
    have f12 : World.cell? _ (⟨(ad.add ((j + 1) * 4)).block, (ad.add ((j + 1) * 4)).off + 2, none⟩) = some (.string t2) := (readsI_at (LS.outer (s := ⟨⟨#[]⟩, some ad, lc, ys, 0⟩) (Bag.bag_rd S8.out 3 rfl)) (j + 1) _ HX2.out).2.2.1
    have f13 : World.cell? _ (⟨(ad.add ((j + 1) * 4)).block, (ad.add ((j + 1) * 4)).off + 3, none⟩) = some (.slice ia2 l2.length ic2) := (readsI_at (LS.outer (s := ⟨⟨#[]⟩, some ad, lc, ys, 0⟩) (Bag.bag_rd S8.out 3 rfl)) (j + 1) _ HX2.out).2.2.2
    go_wp2_with fail
    refine bodyPost_ret (v := .tuple #[.agg #[.int .i64 kd, .int .i64 n, .string t], .agg #[.int .i64 kd2, .int .i64 n2, .string t2], .bool true]) (by simp [results, Tryz.results64, go_sem, *]) rfl ?_
    clear f0 f1 f2 f3 f4 f5 f6 f7 f8 f9 f10 f11 f12 f13
    obtain ⟨e1, e2, e3⟩ := uf_yes (ufO_some (t := f.data.toList) (l := conI ys) (i := j) (by rw [conI_length, ← HN.out]; omega) (by rw [HAD.out]; exact he') HA.out) HC1.out HC2.out
    exact ⟨by rw [← HY.out, e1, e2, e3]; rfl, S8.out.old⟩
   ·
    have he' : (na == nb) = false := beq_no he
    go_wp2_with fail
    go_roundw
    case rel => exact ⟨j + 1, by omega, by go_num, And.intro (fun q hq => if e : q = j then by subst e; rw [HAD.out]; exact he' else HA.out q (by omega)) S5.out⟩
    case measure => simp [intOf]; omega
  ·
   skip
   obtain ⟨f0, f1, f2⟩ := Bag.cs3 S3.out 1 rfl
   obtain ⟨f3, f4, f5⟩ := Bag.cs3 S3.out 2 rfl
   obtain ⟨z0, z1, z2⟩ := Bag.fs3 S3.out 1 rfl
   have y0 := Bag.free_at S3.out 2 rfl 0
   have y1 := Bag.free_at S3.out 2 rfl 1
   have y2 := Bag.free_at S3.out 2 rfl 2
   go_wp2_with fail
   clear f0 f1 f2 f3 f4 f5 z0 z1 z2 y0 y1 y2
   have S4 := Lib.hid (show Sl.Sep w _ [L4.boxR w.heap.size 70 #[.string name, .slice a xs.length c, .int .i64 auto], L4.boxR (w.heap.size + 1) 110 #[.int .i64 0, .int .i64 0, .string ⟨#[]⟩], L4.boxR (w.heap.size + 1 + 1) 110 #[.int .i64 0, .int .i64 0, .string ⟨#[]⟩], Bag.bag (rowI la lc ys :: rowsI ys)] from L5.put_box5 (L5.put_box5 (L5.put_box5 (S3.out) 1 rfl 0 (.int .i64 0)) 1 rfl 1 (.int .i64 0)) 1 rfl 2 (.string ⟨#[]⟩))
   clear S3
   have S5 := Lib.hid (show Sl.Sep w _ [_, _, _, _] from L5.put_box5 (L5.put_box5 (L5.put_box5 (S4.out) 2 rfl 0 (.int .i64 0)) 2 rfl 1 (.int .i64 0)) 2 rfl 2 (.string ⟨#[]⟩))
   clear S4
   obtain ⟨f0, f1, f2⟩ := Bag.cs3 S5.out 1 rfl
   obtain ⟨f3, f4, f5⟩ := Bag.cs3 S5.out 2 rfl
   refine bodyPost_ret (v := .tuple #[.agg #[.int .i64 0, .int .i64 0, .string ⟨#[]⟩], .agg #[.int .i64 0, .int .i64 0, .string ⟨#[]⟩], .bool false]) (by simp [results, Tryz.results64, go_sem, *]) rfl ?_
   clear f0 f1 f2 f3 f4 f5
   obtain ⟨e1, e2, e3⟩ := uf_no (ufO_none (t := f.data.toList) (l := conI ys) (fun q hq => HA.out q (by rw [conI_length, ← HN.out] at hq; omega)))
   exact ⟨by rw [← HY.out, e1, e2, e3]; rfl, S5.out.old⟩
end Go.Proofs.YthljdhfgphebnaaGreat.L7

set_option linter.unusedSimpArgs false
namespace Go.Proofs.YthljdhfgphebnaaGreat.L8
open V L6 L7
open L4 (K isK cmpK)
open L5 (F isR isN string_geq)
open Go.Op (bytesLess)
open Go.ChangeShapes Go.WideShapes Go.ChangeAt Go.RowKit Mem Sl Ex L2 Sv Bag

theorem index_eq (a b : X_IndexDef) (w : World) :
  (Op.equalIn 10000 73 (.agg #[.string a.f_Store, .string a.f_Field]) (.agg #[.string b.f_Store, .string b.f_Field])).run Tryz.prog w = .ok (eqX a b) w := by
 unfold eqX
 cases h1 : a.f_Store.toList == b.f_Store.toList <;> cases h2 : a.f_Field.toList == b.f_Field.toList <;> simp [go_sem, h1, h2]
set_option maxHeartbeats 2000000 in
theorem specFindStore_any (z : Y_Database) (n : ByteArray) (hf : FitD (co_Database z)) (w : World) (hr : RowsRd w w.heap.size (rw_Database z)) :
  Calls Tryz.prog 31 #[vv_Database z, .string n] w fun e w' => e = .returned (.int .i64 (numO (fndS (co_Database z).f_Stores n))) ∧ Below w.heap.size w w' := by
 have HR : Hid (∀ w' (h : Below w.heap.size w w'), Reads w' w.heap.size z.f_Stores_a (z.f_Stores.flatMap cl_Store)) := Lib.hid (fun w' h => (rdS hr).below h)
 have HX : Hid (∀ w' (h : Below w.heap.size w w'), RowsRd w' w'.heap.size (rws_Store z.f_Stores)) := Lib.hid (fun w' h => ((rdX hr).below h).more h.size)
 have HU : Hid (∀ w' (h : Below w.heap.size w w'), Reads w' w.heap.size z.f_Unique_a (z.f_Unique.flatMap cl_IndexDef)) := Lib.hid (fun w' h => (rdU hr).below h)
 have HFD := Lib.hid hf
 have HFDl : z.f_Stores.length ≤ 1048576 := by have h := hf.len; rwa [co_len] at h
 have HFDm : z.f_Unique.length ≤ 1048576 := hf.many
 clear hf hr
 obtain ⟨name, ver, sa, sc, ss, ua, uc, us⟩ := z
 dsimp only [co_Database] at HR HX HU HFD HFDl HFDm
 try unfold vv_Database
 try unfold co_Database
 try dsimp only
 try rw [show coS_IndexDef us = us from rfl]
 rw [show coS_IndexDef us = us from rfl] at HFD
 obtain ⟨N, hN⟩ : ∃ n, n = ss.length := ⟨_, rfl⟩
 obtain ⟨M, hM⟩ : ∃ n, n = us.length := ⟨_, rfl⟩
 rw [← hN] at HFDl ⊢
 rw [← hM] at HFDm ⊢
 have HFDl' : (N : Int) ≤ 1048576 := by omega
 have HFDm' : (M : Int) ≤ 1048576 := by omega
 have HN := Lib.hid hN
 have HM := Lib.hid hM
 clear hN hM
 have S1 := Lib.hid (show Sl.Sep w _ [_] from L4.push_box (Sl.Sep.start w) 33 #[.string name, .int .i64 ver, .slice sa N sc, .slice ua M uc] (w.heap.size) (by simp))
 obtain ⟨wa, hwa⟩ : ∃ u, u = (w.alloc (.cells #[.string name, .int .i64 ver, .slice sa N sc, .slice ua M uc] 33)) := ⟨_, rfl⟩
 rw [← hwa] at S1
 go_enter Tryz.func31, Tryz.ntmps31
 go_upto_region 1 with fail
 rw [← hwa]
 clear hwa
 go_wp2_with fail
 go_loopw [5] (fun i wr => ∃ k : Nat, k ≤ N ∧ i = .int .i64 k ∧ Hid ((∀ j (hj : j < (coS_Store ss).length), j < k → hasN n (coS_Store ss)[j] = false) ∧ Sl.Sep w wr [L4.boxR w.heap.size 33 #[.string name, .int .i64 ver, .slice sa N sc, .slice ua M uc]])) (fun i _ => N - (intOf i).toNat)
 case atStart => exact ⟨0, Nat.zero_le _, rfl, And.intro (fun j hj h => absurd h (by omega)) S1.out⟩
 case round =>
  obtain ⟨k, hk, rfl, hrel⟩ := hrel
  have HA := Lib.hid hrel.out.1
  have S2 := Lib.hid hrel.out.2
  clear hrel S1
  by_cases hlt : (k : Int) < (N : Int)
  ·
   skip
   have hkl : k < ss.length := by have := HN.out; omega
   obtain ⟨x, hx⟩ : ∃ x, ss[k]? = some x := ⟨_, List.getElem?_eq_getElem hkl⟩
   obtain ⟨sad, e'⟩ := el_some cl_Store_len (by decide) (HR.out _ S2.out.old) hkl
   subst e'
   have HKx := Lib.hid (fun w' (h : Below w.heap.size w w') => el3 cl_Store_len (HR.out _ h) hx rfl)
   have HRx := Lib.hid (fun w' (h : Below w.heap.size w w') => rd_store (HX.out w' h) hx)
   have HFx := Lib.hid (fit_store HFD.out.stores hx)
   have HCx := Lib.hid (coS_at hx)
   clear hx
   have hci : k < (coS_Store ss).length := by rw [coS_len]; exact hkl
   have HC := Lib.hid (show (coS_Store ss)[k] = x.con from (List.getElem?_eq_some_iff.1 HCx.out).2)
   obtain ⟨b, hb⟩ : ∃ b, (x.name.toList == n.toList) = b := ⟨_, rfl⟩
   have HB := Lib.hid (show hasN n (coS_Store ss)[k] = b from by rw [HC.out]; exact hb)
   obtain ⟨f0, f1, f2, f3⟩ := Bag.cs4 S2.out 0 rfl
   obtain ⟨f4, f5, f6⟩ := HKx.out _ S2.out.old
   cases b with
   | true =>
    go_wp2_with fail
    go_ret
    exact ⟨by unfold fndS; rw [idx_at k hci HB.out HA.out]; rfl, S2.out.old⟩
   | false =>
    go_wp2_with fail
    go_roundw
    case rel => exact ⟨k + 1, by omega, by go_num, And.intro (fun j hj h => by
     by_cases e : j < k
     ·
      exact HA.out j hj e
     ·
      obtain rfl : j = k := by omega
      exact HB.out) S2.out⟩
    case measure => simp [intOf]; omega
  ·
   skip
   obtain ⟨f0, f1, f2, f3⟩ := Bag.cs4 S2.out 0 rfl
   obtain rfl : k = N := by omega
   go_wp2_with fail
   go_ret
   exact ⟨by unfold fndS; rw [idx_none (fun j hj => HA.out j hj (by have := HN.out; rw [coS_len] at hj; omega))]; rfl, S2.out.old⟩
set_option maxHeartbeats 4000000 in
theorem specL8Index_any (z : Y_Database) (u0 : X_Upgrade) (hf : FitD (co_Database z)) (w : World) (hr : RowsRd w w.heap.size (rw_Database z)) :
  Calls Tryz.prog 32 #[vv_Database z, vv_Upgrade u0] w fun e w' => e = .returned (.int .i64 (numO (fndX (co_Database z).f_Unique (ixOf u0)))) ∧ Below w.heap.size w w' := by
 have HR : Hid (∀ w' (h : Below w.heap.size w w'), Reads w' w.heap.size z.f_Stores_a (z.f_Stores.flatMap cl_Store)) := Lib.hid (fun w' h => (rdS hr).below h)
 have HX : Hid (∀ w' (h : Below w.heap.size w w'), RowsRd w' w'.heap.size (rws_Store z.f_Stores)) := Lib.hid (fun w' h => ((rdX hr).below h).more h.size)
 have HU : Hid (∀ w' (h : Below w.heap.size w w'), Reads w' w.heap.size z.f_Unique_a (z.f_Unique.flatMap cl_IndexDef)) := Lib.hid (fun w' h => (rdU hr).below h)
 have HFD := Lib.hid hf
 have HFDl : z.f_Stores.length ≤ 1048576 := by have h := hf.len; rwa [co_len] at h
 have HFDm : z.f_Unique.length ≤ 1048576 := hf.many
 clear hf hr
 obtain ⟨name, ver, sa, sc, ss, ua, uc, us⟩ := z
 dsimp only [co_Database] at HR HX HU HFD HFDl HFDm
 try unfold vv_Database
 try unfold co_Database
 try dsimp only
 try rw [show coS_IndexDef us = us from rfl]
 rw [show coS_IndexDef us = us from rfl] at HFD
 obtain ⟨N, hN⟩ : ∃ n, n = ss.length := ⟨_, rfl⟩
 obtain ⟨M, hM⟩ : ∃ n, n = us.length := ⟨_, rfl⟩
 rw [← hN] at HFDl ⊢
 rw [← hM] at HFDm ⊢
 have HFDl' : (N : Int) ≤ 1048576 := by omega
 have HFDm' : (M : Int) ≤ 1048576 := by omega
 have HN := Lib.hid hN
 have HM := Lib.hid hM
 clear hN hM
 obtain ⟨uk, un, uf⟩ := u0
 unfold vv_Upgrade ixOf
 dsimp only
 have S1 := Lib.hid (show Sl.Sep w _ [_, _] from L4.push_box (L4.push_box (Sl.Sep.start w) 33 #[.string name, .int .i64 ver, .slice sa N sc, .slice ua M uc] (w.heap.size) (by simp)) 37 #[.int .i64 uk, .string un, .string uf] (w.heap.size + 1) (by simp))
 obtain ⟨wa, hwa⟩ : ∃ u, u = ((w.alloc (.cells #[.string name, .int .i64 ver, .slice sa N sc, .slice ua M uc] 33)).alloc (.cells #[.int .i64 uk, .string un, .string uf] 37)) := ⟨_, rfl⟩
 rw [← hwa] at S1
 go_enter Tryz.func32, Tryz.ntmps32
 go_upto_region 1 with fail
 rw [← hwa]
 clear hwa
 go_wp2_with fail
 go_loopw [5] (fun i wr => ∃ k : Nat, k ≤ M ∧ i = .int .i64 k ∧ Hid ((∀ j (hj : j < us.length), j < k → eqX us[j] ⟨un, uf⟩ = false) ∧ Sl.Sep w wr [L4.boxR w.heap.size 33 #[.string name, .int .i64 ver, .slice sa N sc, .slice ua M uc], L4.boxR (w.heap.size + 1) 37 #[.int .i64 uk, .string un, .string uf]])) (fun i _ => M - (intOf i).toNat)
 case atStart => exact ⟨0, Nat.zero_le _, rfl, And.intro (fun j hj h => absurd h (by omega)) S1.out⟩
 case round =>
  obtain ⟨k, hk, rfl, hrel⟩ := hrel
  have HA := Lib.hid hrel.out.1
  have S2 := Lib.hid hrel.out.2
  clear hrel S1
  by_cases hlt : (k : Int) < (M : Int)
  ·
   skip
   have hkl : k < us.length := by have := HM.out; omega
   obtain ⟨u, hu⟩ : ∃ x, us[k]? = some x := ⟨_, List.getElem?_eq_getElem hkl⟩
   obtain ⟨uad, e'⟩ := el_some cl_IndexDef_len (by decide) (HU.out _ S2.out.old) hkl
   subst e'
   have HKu := Lib.hid (fun w' (h : Below w.heap.size w w') => el2 cl_IndexDef_len (HU.out _ h) hu rfl)
   have HFu := Lib.hid (HFD.out.unique _ (List.mem_of_getElem? hu))
   have HCu := Lib.hid hu
   clear hu
   have HC := Lib.hid (show us[k] = u from (List.getElem?_eq_some_iff.1 HCu.out).2)
   cases hb1 : u.f_Store.toList == un.toList with
   | false =>
    obtain ⟨f0, f1, f2, f3⟩ := Bag.cs4 S2.out 0 rfl
    obtain ⟨f4, f5, f6⟩ := Bag.cs3 S2.out 1 rfl
    obtain ⟨f7, f8⟩ := HKu.out _ S2.out.old
    go_upto_region 4 with fail
    clear f0 f1 f2 f3 f4 f5 f6 f7 f8
    refine wp_region_held_drew (S := (fun w' => (w'.cell? ⟨w.heap.size, 0, none⟩ = some (.string name) ∧ w'.cell? ⟨w.heap.size, 1, none⟩ = some (.int .i64 ver) ∧ w'.cell? ⟨w.heap.size, 2, none⟩ = some (.slice sa N sc) ∧ w'.cell? ⟨w.heap.size, 3, none⟩ = some (.slice (some uad) M uc)) ∧ (w'.cell? ⟨w.heap.size + 1, 0, none⟩ = some (.int .i64 uk) ∧ w'.cell? ⟨w.heap.size + 1, 1, none⟩ = some (.string un) ∧ w'.cell? ⟨w.heap.size + 1, 2, none⟩ = some (.string uf)) ∧ (w'.cell? (uad.add (k * 2)) = some (.string u.f_Store) ∧ w'.cell? (⟨(uad.add (k * 2)).block, (uad.add (k * 2)).off + 1, none⟩) = some (.string u.f_Field)))) (by kernel_rfl) ⟨Bag.cs4 (Bag.drew1 S2.out) 0 rfl, Bag.cs3 (Bag.drew1 S2.out) 1 rfl, HKu.out _ (Bag.drew1 S2.out).old⟩ (fun hS => ?_)
    have S3 := Lib.hid (Bag.drew1 S2.out)
    clear S2
    generalize World.drew _ = w1 at hS S3 ⊢
    refine tk 0 rfl ?_
    try simp only [zp0, zp1, zp2, zp3, zp4]
    refine tk 1 rfl ?_
    try simp only [zp0, zp1, zp2, zp3, zp4]
    refine tk 2 rfl ?_
    try simp only [zp0, zp1, zp2, zp3, zp4]
    refine tk 3 rfl ?_
    try simp only [zp0, zp1, zp2, zp3, zp4]
    refine tk 4 rfl ?_
    try simp only [zp0, zp1, zp2, zp3, zp4]
    refine tk 5 rfl ?_
    try simp only [zp0, zp1, zp2, zp3, zp4]
    refine tk 6 rfl ?_
    try simp only [zp0, zp1, zp2, zp3, zp4]
    refine tk 7 rfl ?_
    try simp only [zp0, zp1, zp2, zp3, zp4]
    refine tk 8 rfl ?_
    try simp only [zp0, zp1, zp2, zp3, zp4]
    refine tk 9 rfl ?_
    try simp only [zp0, zp1, zp2, zp3, zp4]
    refine sk 10 rfl ?_
    try simp only [zp0, zp1, zp2, zp3, zp4]
    refine sk 11 rfl ?_
    try simp only [zp0, zp1, zp2, zp3, zp4]
    refine sk 12 rfl ?_
    try simp only [zp0, zp1, zp2, zp3, zp4]
    refine sk 13 rfl ?_
    try simp only [zp0, zp1, zp2, zp3, zp4]
    refine sk 14 rfl ?_
    try simp only [zp0, zp1, zp2, zp3, zp4]
    refine sk 15 rfl ?_
    try simp only [zp0, zp1, zp2, zp3, zp4]
    refine sk 16 rfl ?_
    try simp only [zp0, zp1, zp2, zp3, zp4]
    refine sk 17 rfl ?_
    try simp only [zp0, zp1, zp2, zp3, zp4]
    refine sk 18 rfl ?_
    try simp only [zp0, zp1, zp2, zp3, zp4]
    refine tk 19 rfl ?_
    try simp only [zp0, zp1, zp2, zp3, zp4]
    refine wpAnyH_done (by kernel_rfl) ?_ _
    obtain ⟨f0, f1, f2, f3⟩ := Bag.cs4 S3.out 0 rfl
    obtain ⟨f4, f5, f6⟩ := Bag.cs3 S3.out 1 rfl
    obtain ⟨f7, f8⟩ := HKu.out _ S3.out.old
    have HB := Lib.hid (show eqX us[k] ⟨un, uf⟩ = false from by rw [HC.out]; unfold eqX; dsimp only; rw [hb1]; rfl)
    go_wp2_with fail
    go_roundw
    case rel => exact ⟨k + 1, by omega, by go_num, And.intro (fun j hj h => by
     by_cases e : j < k
     ·
      exact HA.out j hj e
     ·
      obtain rfl : j = k := by omega
      exact HB.out) S3.out⟩
    case measure => simp [intOf]; omega
   | true =>
    cases hb2 : u.f_Field.toList == uf.toList with
    | false =>
     obtain ⟨f0, f1, f2, f3⟩ := Bag.cs4 S2.out 0 rfl
     obtain ⟨f4, f5, f6⟩ := Bag.cs3 S2.out 1 rfl
     obtain ⟨f7, f8⟩ := HKu.out _ S2.out.old
     go_upto_region 4 with fail
     clear f0 f1 f2 f3 f4 f5 f6 f7 f8
     refine wp_region_held_drew (S := (fun w' => (w'.cell? ⟨w.heap.size, 0, none⟩ = some (.string name) ∧ w'.cell? ⟨w.heap.size, 1, none⟩ = some (.int .i64 ver) ∧ w'.cell? ⟨w.heap.size, 2, none⟩ = some (.slice sa N sc) ∧ w'.cell? ⟨w.heap.size, 3, none⟩ = some (.slice (some uad) M uc)) ∧ (w'.cell? ⟨w.heap.size + 1, 0, none⟩ = some (.int .i64 uk) ∧ w'.cell? ⟨w.heap.size + 1, 1, none⟩ = some (.string un) ∧ w'.cell? ⟨w.heap.size + 1, 2, none⟩ = some (.string uf)) ∧ (w'.cell? (uad.add (k * 2)) = some (.string u.f_Store) ∧ w'.cell? (⟨(uad.add (k * 2)).block, (uad.add (k * 2)).off + 1, none⟩) = some (.string u.f_Field)))) (by kernel_rfl) ⟨Bag.cs4 (Bag.drew1 S2.out) 0 rfl, Bag.cs3 (Bag.drew1 S2.out) 1 rfl, HKu.out _ (Bag.drew1 S2.out).old⟩ (fun hS => ?_)
     have S3 := Lib.hid (Bag.drew1 S2.out)
     clear S2
     generalize World.drew _ = w1 at hS S3 ⊢
     refine tk 0 rfl ?_
     try simp only [zp0, zp1, zp2, zp3, zp4]
     refine tk 1 rfl ?_
     try simp only [zp0, zp1, zp2, zp3, zp4]
     refine tk 2 rfl ?_
     try simp only [zp0, zp1, zp2, zp3, zp4]
     refine tk 3 rfl ?_
     try simp only [zp0, zp1, zp2, zp3, zp4]
     refine tk 4 rfl ?_
     try simp only [zp0, zp1, zp2, zp3, zp4]
     refine tk 5 rfl ?_
     try simp only [zp0, zp1, zp2, zp3, zp4]
     refine tk 6 rfl ?_
     try simp only [zp0, zp1, zp2, zp3, zp4]
     refine tk 7 rfl ?_
     try simp only [zp0, zp1, zp2, zp3, zp4]
     refine tk 8 rfl ?_
     try simp only [zp0, zp1, zp2, zp3, zp4]
     refine tk 9 rfl ?_
     try simp only [zp0, zp1, zp2, zp3, zp4]
     refine tk 10 rfl ?_
     try simp only [zp0, zp1, zp2, zp3, zp4]
     refine tk 11 rfl ?_
     try simp only [zp0, zp1, zp2, zp3, zp4]
     refine tk 12 rfl ?_
     try simp only [zp0, zp1, zp2, zp3, zp4]
     refine tk 13 rfl ?_
     try simp only [zp0, zp1, zp2, zp3, zp4]
     refine tk 14 rfl ?_
     try simp only [zp0, zp1, zp2, zp3, zp4]
     refine tk 15 rfl ?_
     try simp only [zp0, zp1, zp2, zp3, zp4]
     refine tk 16 rfl ?_
     try simp only [zp0, zp1, zp2, zp3, zp4]
     refine tk 17 rfl ?_
     try simp only [zp0, zp1, zp2, zp3, zp4]
     refine tk 18 rfl ?_
     try simp only [zp0, zp1, zp2, zp3, zp4]
     refine tk 19 rfl ?_
     try simp only [zp0, zp1, zp2, zp3, zp4]
     refine wpAnyH_done (by kernel_rfl) ?_ _
     obtain ⟨f0, f1, f2, f3⟩ := Bag.cs4 S3.out 0 rfl
     obtain ⟨f4, f5, f6⟩ := Bag.cs3 S3.out 1 rfl
     obtain ⟨f7, f8⟩ := HKu.out _ S3.out.old
     have HB := Lib.hid (show eqX us[k] ⟨un, uf⟩ = false from by rw [HC.out]; unfold eqX; dsimp only; rw [hb1, hb2]; rfl)
     go_wp2_with fail
     go_roundw
     case rel => exact ⟨k + 1, by omega, by go_num, And.intro (fun j hj h => by
      by_cases e : j < k
      ·
       exact HA.out j hj e
      ·
       obtain rfl : j = k := by omega
       exact HB.out) S3.out⟩
     case measure => simp [intOf]; omega
    | true =>
     have HB := Lib.hid (show eqX us[k] ⟨un, uf⟩ = true from by rw [HC.out]; unfold eqX; dsimp only; rw [hb1, hb2]; rfl)
     obtain ⟨f0, f1, f2, f3⟩ := Bag.cs4 S2.out 0 rfl
     obtain ⟨f4, f5, f6⟩ := Bag.cs3 S2.out 1 rfl
     obtain ⟨f7, f8⟩ := HKu.out _ S2.out.old
     go_upto_region 4 with fail
     clear f0 f1 f2 f3 f4 f5 f6 f7 f8
     refine wp_region_held_drew (S := (fun w' => (w'.cell? ⟨w.heap.size, 0, none⟩ = some (.string name) ∧ w'.cell? ⟨w.heap.size, 1, none⟩ = some (.int .i64 ver) ∧ w'.cell? ⟨w.heap.size, 2, none⟩ = some (.slice sa N sc) ∧ w'.cell? ⟨w.heap.size, 3, none⟩ = some (.slice (some uad) M uc)) ∧ (w'.cell? ⟨w.heap.size + 1, 0, none⟩ = some (.int .i64 uk) ∧ w'.cell? ⟨w.heap.size + 1, 1, none⟩ = some (.string un) ∧ w'.cell? ⟨w.heap.size + 1, 2, none⟩ = some (.string uf)) ∧ (w'.cell? (uad.add (k * 2)) = some (.string u.f_Store) ∧ w'.cell? (⟨(uad.add (k * 2)).block, (uad.add (k * 2)).off + 1, none⟩) = some (.string u.f_Field)))) (by kernel_rfl) ⟨Bag.cs4 (Bag.drew1 S2.out) 0 rfl, Bag.cs3 (Bag.drew1 S2.out) 1 rfl, HKu.out _ (Bag.drew1 S2.out).old⟩ (fun hS => ?_)
     have S3 := Lib.hid (Bag.drew1 S2.out)
     clear S2
     generalize World.drew _ = w1 at hS S3 ⊢
     refine tk 0 rfl ?_
     try simp only [zp0, zp1, zp2, zp3, zp4]
     refine tk 1 rfl ?_
     try simp only [zp0, zp1, zp2, zp3, zp4]
     refine tk 2 rfl ?_
     try simp only [zp0, zp1, zp2, zp3, zp4]
     refine tk 3 rfl ?_
     try simp only [zp0, zp1, zp2, zp3, zp4]
     refine tk 4 rfl ?_
     try simp only [zp0, zp1, zp2, zp3, zp4]
     refine tk 5 rfl ?_
     try simp only [zp0, zp1, zp2, zp3, zp4]
     refine tk 6 rfl ?_
     try simp only [zp0, zp1, zp2, zp3, zp4]
     refine tk 7 rfl ?_
     try simp only [zp0, zp1, zp2, zp3, zp4]
     refine tk 8 rfl ?_
     try simp only [zp0, zp1, zp2, zp3, zp4]
     refine tk 9 rfl ?_
     try simp only [zp0, zp1, zp2, zp3, zp4]
     refine tk 10 rfl ?_
     try simp only [zp0, zp1, zp2, zp3, zp4]
     refine tk 11 rfl ?_
     try simp only [zp0, zp1, zp2, zp3, zp4]
     refine tk 12 rfl ?_
     try simp only [zp0, zp1, zp2, zp3, zp4]
     refine tk 13 rfl ?_
     try simp only [zp0, zp1, zp2, zp3, zp4]
     refine tk 14 rfl ?_
     try simp only [zp0, zp1, zp2, zp3, zp4]
     refine tk 15 rfl ?_
     try simp only [zp0, zp1, zp2, zp3, zp4]
     refine tk 16 rfl ?_
     try simp only [zp0, zp1, zp2, zp3, zp4]
     refine tk 17 rfl ?_
     try simp only [zp0, zp1, zp2, zp3, zp4]
     refine tk 18 rfl ?_
     try simp only [zp0, zp1, zp2, zp3, zp4]
     refine tk 19 rfl ?_
     try simp only [zp0, zp1, zp2, zp3, zp4]
     refine wpAnyH_done (by kernel_rfl) ?_ _
     obtain ⟨f0, f1, f2, f3⟩ := Bag.cs4 S3.out 0 rfl
     obtain ⟨f4, f5, f6⟩ := Bag.cs3 S3.out 1 rfl
     obtain ⟨f7, f8⟩ := HKu.out _ S3.out.old
     go_wp2_with fail
     go_ret
     exact ⟨by unfold fndX; rw [idx_at (p := fun v => eqX v ⟨un, uf⟩) k hkl HB.out HA.out]; rfl, S3.out.old⟩
  ·
   skip
   obtain ⟨f0, f1, f2, f3⟩ := Bag.cs4 S2.out 0 rfl
   obtain ⟨f4, f5, f6⟩ := Bag.cs3 S2.out 1 rfl
   obtain rfl : k = M := by omega
   go_wp2_with fail
   go_ret
   exact ⟨by unfold fndX; rw [idx_none (p := fun v => eqX v ⟨un, uf⟩) (fun j hj => HA.out j hj (by have := HM.out; omega))]; rfl, S2.out.old⟩
set_option maxHeartbeats 16000000 in
theorem specIsDatabase_any (z : Y_Database) (hf : FitD (co_Database z)) (w : World) (hr : RowsRd w w.heap.size (rw_Database z)) :
  Calls Tryz.prog 34 #[vv_Database z] w fun e w' => e = .returned (.bool (isD (co_Database z))) ∧ Below w.heap.size w w' := by
 have HFS := Lib.hid (fun (n : ByteArray) w' (h : Below w.heap.size w w') => specFindStore_any z n hf w' ((hr.below h).more h.size))
 unfold vv_Database co_Database at HFS
 have HR : Hid (∀ w' (h : Below w.heap.size w w'), Reads w' w.heap.size z.f_Stores_a (z.f_Stores.flatMap cl_Store)) := Lib.hid (fun w' h => (rdS hr).below h)
 have HX : Hid (∀ w' (h : Below w.heap.size w w'), RowsRd w' w'.heap.size (rws_Store z.f_Stores)) := Lib.hid (fun w' h => ((rdX hr).below h).more h.size)
 have HU : Hid (∀ w' (h : Below w.heap.size w w'), Reads w' w.heap.size z.f_Unique_a (z.f_Unique.flatMap cl_IndexDef)) := Lib.hid (fun w' h => (rdU hr).below h)
 have HFD := Lib.hid hf
 have HFDl : z.f_Stores.length ≤ 1048576 := by have h := hf.len; rwa [co_len] at h
 have HFDm : z.f_Unique.length ≤ 1048576 := hf.many
 clear hf hr
 obtain ⟨name, ver, sa, sc, ss, ua, uc, us⟩ := z
 dsimp only [co_Database] at HR HX HU HFD HFDl HFDm
 try unfold vv_Database
 try unfold co_Database
 try dsimp only
 try rw [show coS_IndexDef us = us from rfl]
 rw [show coS_IndexDef us = us from rfl] at HFD
 obtain ⟨N, hN⟩ : ∃ n, n = ss.length := ⟨_, rfl⟩
 obtain ⟨M, hM⟩ : ∃ n, n = us.length := ⟨_, rfl⟩
 rw [← hN] at HFDl ⊢
 rw [← hM] at HFDm ⊢
 have HFDl' : (N : Int) ≤ 1048576 := by omega
 have HFDm' : (M : Int) ≤ 1048576 := by omega
 have HN := Lib.hid hN
 have HM := Lib.hid hM
 clear hN hM
 rw [← HN.out, ← HM.out] at HFS
 try dsimp only at HFS
 obtain ⟨B, hB⟩ : ∃ b, isD ⟨name, ver, coS_Store ss, us⟩ = b := ⟨_, rfl⟩
 have HB := Lib.hid hB
 rw [hB]
 clear hB
 have HSL := Lib.hid (show (coS_Store ss).length = N by rw [coS_len, HN.out])
 have S1 := Lib.hid (show Sl.Sep w _ [_] from L4.push_box (Sl.Sep.start w) 33 #[.string name, .int .i64 ver, .slice sa N sc, .slice ua M uc] (w.heap.size) (by simp))
 obtain ⟨wa, hwa⟩ : ∃ u, u = (w.alloc (.cells #[.string name, .int .i64 ver, .slice sa N sc, .slice ua M uc] 33)) := ⟨_, rfl⟩
 rw [← hwa] at S1
 go_enter Tryz.func34, Tryz.ntmps34
 go_upto_region 1 with fail
 rw [← hwa]
 clear hwa
 go_wp2_with fail
 go_loopw [3] (fun i wr => ∃ k : Nat, k ≤ N ∧ i = .int .i64 k ∧ Hid ((∀ j, j < k → okSx (coS_Store ss) j = true) ∧ Sl.Sep w wr [L4.boxR w.heap.size 33 #[.string name, .int .i64 ver, .slice sa N sc, .slice ua M uc]])) (fun i _ => N - (intOf i).toNat)
 case atStart => exact ⟨0, Nat.zero_le _, rfl, And.intro (fun j h => absurd h (by omega)) S1.out⟩
 case round =>
  obtain ⟨k, hk, rfl, hrel⟩ := hrel
  have HA := Lib.hid hrel.out.1
  have S2 := Lib.hid hrel.out.2
  clear hrel S1
  by_cases hlt : (k : Int) < (N : Int)
  ·
   skip
   have hkl : k < ss.length := by have := HN.out; omega
   obtain ⟨x, hx⟩ : ∃ x, ss[k]? = some x := ⟨_, List.getElem?_eq_getElem hkl⟩
   obtain ⟨sad, e'⟩ := el_some cl_Store_len (by decide) (HR.out _ S2.out.old) hkl
   subst e'
   have HKx := Lib.hid (fun w' (h : Below w.heap.size w w') => el3 cl_Store_len (HR.out _ h) hx rfl)
   have HRx := Lib.hid (fun w' (h : Below w.heap.size w w') => rd_store (HX.out w' h) hx)
   have HFx := Lib.hid (fit_store HFD.out.stores hx)
   have HCx := Lib.hid (coS_at hx)
   clear hx
   obtain ⟨bk, hbk⟩ : ∃ b, isS x.con = b := ⟨_, rfl⟩
   have HIK := fun w' (h : Below w.heap.size w w') => specIsStore_any x HFx.out w' (HRx.out w' h)
   rw [hbk] at HIK
   dsimp only [LS.v, LS.cells] at HIK
   replace HIK := Lib.hid HIK
   have HBK := Lib.hid hbk
   clear hbk
   obtain ⟨f0, f1, f2, f3⟩ := Bag.cs4 S2.out 0 rfl
   obtain ⟨f4, f5, f6⟩ := HKx.out _ S2.out.old
   cases bk with
   | false =>
    go_upto_region 4 with fail
    clear f0 f1 f2 f3 f4 f5 f6
    refine wp_region_held_drew (S := (fun w' => (w'.cell? ⟨w.heap.size, 0, none⟩ = some (.string name) ∧ w'.cell? ⟨w.heap.size, 1, none⟩ = some (.int .i64 ver) ∧ w'.cell? ⟨w.heap.size, 2, none⟩ = some (.slice (some sad) N sc) ∧ w'.cell? ⟨w.heap.size, 3, none⟩ = some (.slice ua M uc)) ∧ (w'.cell? (sad.add (k * 3)) = some (.string x.name) ∧ w'.cell? (⟨(sad.add (k * 3)).block, (sad.add (k * 3)).off + 1, none⟩) = some (.slice x.a x.xs.length x.c) ∧ w'.cell? (⟨(sad.add (k * 3)).block, (sad.add (k * 3)).off + 2, none⟩) = some (.int .i64 x.auto)))) (by kernel_rfl) ⟨Bag.cs4 (Bag.drew1 S2.out) 0 rfl, HKx.out _ (Bag.drew1 S2.out).old⟩ (fun hS => ?_)
    have S3 := Lib.hid (Bag.drew1 S2.out)
    clear S2
    generalize World.drew _ = w1 at hS S3 ⊢
    refine tk 0 rfl ?_
    try simp only [zp0, zp1, zp2, zp3, zp4]
    refine tk 1 rfl ?_
    try simp only [zp0, zp1, zp2, zp3, zp4]
    refine tk 2 rfl ?_
    try simp only [zp0, zp1, zp2, zp3, zp4]
    refine tk 3 rfl ?_
    try simp only [zp0, zp1, zp2, zp3, zp4]
    refine tk 4 rfl ?_
    try simp only [zp0, zp1, zp2, zp3, zp4]
    refine Reg.one_op (i := 5) rfl (by kernel_rfl) (fun K hK => ?_)
    go_simp
    go_at_call 62
    refine (HIK.out _ S3.out.old).mono ?_
    rintro e w2 ⟨rfl, hb⟩
    have S4 := Lib.hid (S3.out.keep hb)
    clear S3
    clear hb
    go_wp2_with fail
    refine hK.out _ _ ⟨Bag.cs4 S4.out 0 rfl, HKx.out _ S4.out.old⟩ (fun hS => ?_)
    clear hK K
    try simp only [zp0, zp1, zp2, zp3, zp4]
    refine tk 6 rfl ?_
    try simp only [zp0, zp1, zp2, zp3, zp4]
    refine tk 7 rfl ?_
    try simp only [zp0, zp1, zp2, zp3, zp4]
    refine sk 8 rfl ?_
    try simp only [zp0, zp1, zp2, zp3, zp4]
    refine sk 9 rfl ?_
    try simp only [zp0, zp1, zp2, zp3, zp4]
    refine sk 10 rfl ?_
    try simp only [zp0, zp1, zp2, zp3, zp4]
    refine sk 11 rfl ?_
    try simp only [zp0, zp1, zp2, zp3, zp4]
    refine sk 12 rfl ?_
    try simp only [zp0, zp1, zp2, zp3, zp4]
    refine sk 13 rfl ?_
    try simp only [zp0, zp1, zp2, zp3, zp4]
    refine sk 14 rfl ?_
    try simp only [zp0, zp1, zp2, zp3, zp4]
    refine sk 15 rfl ?_
    try simp only [zp0, zp1, zp2, zp3, zp4]
    refine sk 16 rfl ?_
    try simp only [zp0, zp1, zp2, zp3, zp4]
    refine sk 17 rfl ?_
    try simp only [zp0, zp1, zp2, zp3, zp4]
    refine sk 18 rfl ?_
    try simp only [zp0, zp1, zp2, zp3, zp4]
    refine sk 19 rfl ?_
    try simp only [zp0, zp1, zp2, zp3, zp4]
    refine sk 20 rfl ?_
    try simp only [zp0, zp1, zp2, zp3, zp4]
    refine sk 21 rfl ?_
    try simp only [zp0, zp1, zp2, zp3, zp4]
    refine sk 22 rfl ?_
    try simp only [zp0, zp1, zp2, zp3, zp4]
    refine sk 23 rfl ?_
    try simp only [zp0, zp1, zp2, zp3, zp4]
    refine sk 24 rfl ?_
    try simp only [zp0, zp1, zp2, zp3, zp4]
    refine sk 25 rfl ?_
    try simp only [zp0, zp1, zp2, zp3, zp4]
    refine tk 26 rfl ?_
    try simp only [zp0, zp1, zp2, zp3, zp4]
    refine wpAnyH_done (by kernel_rfl) ?_ _
    obtain ⟨f0, f1, f2, f3⟩ := Bag.cs4 S4.out 0 rfl
    obtain ⟨f4, f5, f6⟩ := HKx.out _ S4.out.old
    have HNO := Lib.hid (show B = false from by rw [← HB.out]; unfold isD; dsimp only; rw [allTo_no k (by rw [HSL.out]; omega) (by rw [okSx_at HCx.out, HBK.out]; rfl)]; rfl)
    go_wp2_with fail
    go_ret
    exact ⟨by rw [HNO.out] <;> rfl, S4.out.old⟩
   | true =>
    rcases Nat.eq_zero_or_pos k with hk0 | hk0
    ·
     have hk1 : (0 < k) = False := by simp; omega
     have HZ := Lib.hid hk0
     clear hk0
     go_upto_region 4 with fail
     clear f0 f1 f2 f3 f4 f5 f6
     refine wp_region_held_drew (S := (fun w' => (w'.cell? ⟨w.heap.size, 0, none⟩ = some (.string name) ∧ w'.cell? ⟨w.heap.size, 1, none⟩ = some (.int .i64 ver) ∧ w'.cell? ⟨w.heap.size, 2, none⟩ = some (.slice (some sad) N sc) ∧ w'.cell? ⟨w.heap.size, 3, none⟩ = some (.slice ua M uc)) ∧ (w'.cell? (sad.add (k * 3)) = some (.string x.name) ∧ w'.cell? (⟨(sad.add (k * 3)).block, (sad.add (k * 3)).off + 1, none⟩) = some (.slice x.a x.xs.length x.c) ∧ w'.cell? (⟨(sad.add (k * 3)).block, (sad.add (k * 3)).off + 2, none⟩) = some (.int .i64 x.auto)))) (by kernel_rfl) ⟨Bag.cs4 (Bag.drew1 S2.out) 0 rfl, HKx.out _ (Bag.drew1 S2.out).old⟩ (fun hS => ?_)
     have S3 := Lib.hid (Bag.drew1 S2.out)
     clear S2
     generalize World.drew _ = w1 at hS S3 ⊢
     refine tk 0 rfl ?_
     try simp only [zp0, zp1, zp2, zp3, zp4]
     refine tk 1 rfl ?_
     try simp only [zp0, zp1, zp2, zp3, zp4]
     refine tk 2 rfl ?_
     try simp only [zp0, zp1, zp2, zp3, zp4]
     refine tk 3 rfl ?_
     try simp only [zp0, zp1, zp2, zp3, zp4]
     refine tk 4 rfl ?_
     try simp only [zp0, zp1, zp2, zp3, zp4]
     refine Reg.one_op (i := 5) rfl (by kernel_rfl) (fun K hK => ?_)
     go_simp
     go_at_call 62
     refine (HIK.out _ S3.out.old).mono ?_
     rintro e w2 ⟨rfl, hb⟩
     have S4 := Lib.hid (S3.out.keep hb)
     clear S3
     clear hb
     go_wp2_with fail
     refine hK.out _ _ ⟨Bag.cs4 S4.out 0 rfl, HKx.out _ S4.out.old⟩ (fun hS => ?_)
     clear hK K
     try simp only [zp0, zp1, zp2, zp3, zp4]
     refine tk 6 rfl ?_
     try simp only [zp0, zp1, zp2, zp3, zp4]
     refine tk 7 rfl ?_
     try simp only [zp0, zp1, zp2, zp3, zp4]
     refine tk 8 rfl ?_
     try simp only [zp0, zp1, zp2, zp3, zp4]
     refine tk 9 rfl ?_
     try simp only [zp0, zp1, zp2, zp3, zp4]
     refine tk 10 rfl ?_
     try simp only [zp0, zp1, zp2, zp3, zp4]
     refine sk 11 rfl ?_
     try simp only [zp0, zp1, zp2, zp3, zp4]
     refine sk 12 rfl ?_
     try simp only [zp0, zp1, zp2, zp3, zp4]
     refine sk 13 rfl ?_
     try simp only [zp0, zp1, zp2, zp3, zp4]
     refine sk 14 rfl ?_
     try simp only [zp0, zp1, zp2, zp3, zp4]
     refine sk 15 rfl ?_
     try simp only [zp0, zp1, zp2, zp3, zp4]
     refine sk 16 rfl ?_
     try simp only [zp0, zp1, zp2, zp3, zp4]
     refine sk 17 rfl ?_
     try simp only [zp0, zp1, zp2, zp3, zp4]
     refine sk 18 rfl ?_
     try simp only [zp0, zp1, zp2, zp3, zp4]
     refine sk 19 rfl ?_
     try simp only [zp0, zp1, zp2, zp3, zp4]
     refine sk 20 rfl ?_
     try simp only [zp0, zp1, zp2, zp3, zp4]
     refine sk 21 rfl ?_
     try simp only [zp0, zp1, zp2, zp3, zp4]
     refine sk 22 rfl ?_
     try simp only [zp0, zp1, zp2, zp3, zp4]
     refine sk 23 rfl ?_
     try simp only [zp0, zp1, zp2, zp3, zp4]
     refine sk 24 rfl ?_
     try simp only [zp0, zp1, zp2, zp3, zp4]
     refine tk 25 rfl ?_
     try simp only [zp0, zp1, zp2, zp3, zp4]
     refine tk 26 rfl ?_
     try simp only [zp0, zp1, zp2, zp3, zp4]
     refine wpAnyH_done (by kernel_rfl) ?_ _
     obtain ⟨f0, f1, f2, f3⟩ := Bag.cs4 S4.out 0 rfl
     obtain ⟨f4, f5, f6⟩ := HKx.out _ S4.out.old
     go_wp2_with fail
     go_roundw
     case rel => exact ⟨k + 1, by omega, by go_num, And.intro (fun j h => by
      by_cases e : j < k
      ·
       exact HA.out j e
      ·
       obtain rfl : j = k := by omega
       rw [okSx_at HCx.out, HBK.out, HZ.out]; rfl) S4.out⟩
     case measure => simp [intOf]; omega
    ·
     obtain ⟨m, hkm⟩ : ∃ m, k = m + 1 := ⟨k - 1, by omega⟩
     have hki : (k : Int) - 1 = (m : Int) := by omega
     have HKM := Lib.hid hkm
     have hm0 : m < ss.length := by omega
     have hmi : (m : Int) < (N : Int) := by omega
     have hmw : IntKind.i64.wrap (m : Int) = (m : Int) := IntWalk.i64_in _ ⟨by omega, by omega⟩
     clear hkm
     clear f0 f1 f2 f3 f4 f5 f6
     obtain ⟨y, hy⟩ : ∃ x, ss[m]? = some x := ⟨_, List.getElem?_eq_getElem hm0⟩
     have HKy := Lib.hid (fun w' (h : Below w.heap.size w w') => el3 cl_Store_len (HR.out _ h) hy rfl)
     have HRy := Lib.hid (fun w' (h : Below w.heap.size w w') => rd_store (HX.out w' h) hy)
     have HFy := Lib.hid (fit_store HFD.out.stores hy)
     have HCy := Lib.hid (coS_at hy)
     clear hy
     have hge := string_geq
     cases hc : bytesLess y.name.toList x.name.toList with
     | false =>
      obtain ⟨f0, f1, f2, f3⟩ := Bag.cs4 S2.out 0 rfl
      obtain ⟨f4, f5, f6⟩ := HKx.out _ S2.out.old
      obtain ⟨f7, f8, f9⟩ := HKy.out _ S2.out.old
      go_upto_region 4 with fail
      clear f0 f1 f2 f3 f4 f5 f6 f7 f8 f9
      refine wp_region_held_drew (S := (fun w' => (w'.cell? ⟨w.heap.size, 0, none⟩ = some (.string name) ∧ w'.cell? ⟨w.heap.size, 1, none⟩ = some (.int .i64 ver) ∧ w'.cell? ⟨w.heap.size, 2, none⟩ = some (.slice (some sad) N sc) ∧ w'.cell? ⟨w.heap.size, 3, none⟩ = some (.slice ua M uc)) ∧ (w'.cell? (sad.add (k * 3)) = some (.string x.name) ∧ w'.cell? (⟨(sad.add (k * 3)).block, (sad.add (k * 3)).off + 1, none⟩) = some (.slice x.a x.xs.length x.c) ∧ w'.cell? (⟨(sad.add (k * 3)).block, (sad.add (k * 3)).off + 2, none⟩) = some (.int .i64 x.auto)) ∧ (w'.cell? (sad.add (m * 3)) = some (.string y.name) ∧ w'.cell? (⟨(sad.add (m * 3)).block, (sad.add (m * 3)).off + 1, none⟩) = some (.slice y.a y.xs.length y.c) ∧ w'.cell? (⟨(sad.add (m * 3)).block, (sad.add (m * 3)).off + 2, none⟩) = some (.int .i64 y.auto)))) (by kernel_rfl) ⟨Bag.cs4 (Bag.drew1 S2.out) 0 rfl, HKx.out _ (Bag.drew1 S2.out).old, HKy.out _ (Bag.drew1 S2.out).old⟩ (fun hS => ?_)
      have S3 := Lib.hid (Bag.drew1 S2.out)
      clear S2
      generalize World.drew _ = w1 at hS S3 ⊢
      refine tk 0 rfl ?_
      try simp only [zp0, zp1, zp2, zp3, zp4]
      refine tk 1 rfl ?_
      try simp only [zp0, zp1, zp2, zp3, zp4]
      refine tk 2 rfl ?_
      try simp only [zp0, zp1, zp2, zp3, zp4]
      refine tk 3 rfl ?_
      try simp only [zp0, zp1, zp2, zp3, zp4]
      refine tk 4 rfl ?_
      try simp only [zp0, zp1, zp2, zp3, zp4]
      refine Reg.one_op (i := 5) rfl (by kernel_rfl) (fun K hK => ?_)
      go_simp
      go_at_call 62
      refine (HIK.out _ S3.out.old).mono ?_
      rintro e w2 ⟨rfl, hb⟩
      have S4 := Lib.hid (S3.out.keep hb)
      clear S3
      clear hb
      go_wp2_with fail
      refine hK.out _ _ ⟨Bag.cs4 S4.out 0 rfl, HKx.out _ S4.out.old, HKy.out _ S4.out.old⟩ (fun hS => ?_)
      clear hK K
      try simp only [zp0, zp1, zp2, zp3, zp4]
      refine tk 6 rfl ?_
      try simp only [zp0, zp1, zp2, zp3, zp4]
      refine tk 7 rfl ?_
      try simp only [zp0, zp1, zp2, zp3, zp4]
      refine tk 8 rfl ?_
      try simp only [zp0, zp1, zp2, zp3, zp4]
      refine tk 9 rfl ?_
      try simp only [zp0, zp1, zp2, zp3, zp4]
      refine tk 10 rfl ?_
      try simp only [zp0, zp1, zp2, zp3, zp4]
      refine tk 11 rfl ?_
      try simp only [zp0, zp1, zp2, zp3, zp4]
      refine tk 12 rfl ?_
      try simp only [zp0, zp1, zp2, zp3, zp4]
      refine tk 13 rfl ?_
      try simp only [zp0, zp1, zp2, zp3, zp4]
      refine tk 14 rfl ?_
      try simp only [zp0, zp1, zp2, zp3, zp4]
      refine tk 15 rfl ?_
      try simp only [zp0, zp1, zp2, zp3, zp4]
      refine tk 16 rfl ?_
      try simp only [zp0, zp1, zp2, zp3, zp4]
      refine tk 17 rfl ?_
      try simp only [zp0, zp1, zp2, zp3, zp4]
      refine tk 18 rfl ?_
      try simp only [zp0, zp1, zp2, zp3, zp4]
      refine tk 19 rfl ?_
      try simp only [zp0, zp1, zp2, zp3, zp4]
      refine tk 20 rfl ?_
      try simp only [zp0, zp1, zp2, zp3, zp4]
      refine tk 21 rfl ?_
      try simp only [zp0, zp1, zp2, zp3, zp4]
      refine tk 22 rfl ?_
      try simp only [zp0, zp1, zp2, zp3, zp4]
      refine tk 23 rfl ?_
      try simp only [zp0, zp1, zp2, zp3, zp4]
      refine tk 24 rfl ?_
      try simp only [zp0, zp1, zp2, zp3, zp4]
      refine tk 25 rfl ?_
      try simp only [zp0, zp1, zp2, zp3, zp4]
      refine tk 26 rfl ?_
      try simp only [zp0, zp1, zp2, zp3, zp4]
      refine wpAnyH_done (by kernel_rfl) ?_ _
      obtain ⟨f0, f1, f2, f3⟩ := Bag.cs4 S4.out 0 rfl
      obtain ⟨f4, f5, f6⟩ := HKx.out _ S4.out.old
      obtain ⟨f7, f8, f9⟩ := HKy.out _ S4.out.old
      have HNO := Lib.hid (show B = false from by rw [← HB.out]; unfold isD; dsimp only; rw [allTo_no k (by rw [HSL.out]; omega) (by rw [okSx_at HCx.out, HBK.out, HKM.out, ahead8_at HCy.out]; exact hc)]; rfl)
      go_wp2_with fail
      go_ret
      exact ⟨by rw [HNO.out] <;> rfl, S4.out.old⟩
     | true =>
      obtain ⟨f0, f1, f2, f3⟩ := Bag.cs4 S2.out 0 rfl
      obtain ⟨f4, f5, f6⟩ := HKx.out _ S2.out.old
      obtain ⟨f7, f8, f9⟩ := HKy.out _ S2.out.old
      go_upto_region 4 with fail
      clear f0 f1 f2 f3 f4 f5 f6 f7 f8 f9
      refine wp_region_held_drew (S := (fun w' => (w'.cell? ⟨w.heap.size, 0, none⟩ = some (.string name) ∧ w'.cell? ⟨w.heap.size, 1, none⟩ = some (.int .i64 ver) ∧ w'.cell? ⟨w.heap.size, 2, none⟩ = some (.slice (some sad) N sc) ∧ w'.cell? ⟨w.heap.size, 3, none⟩ = some (.slice ua M uc)) ∧ (w'.cell? (sad.add (k * 3)) = some (.string x.name) ∧ w'.cell? (⟨(sad.add (k * 3)).block, (sad.add (k * 3)).off + 1, none⟩) = some (.slice x.a x.xs.length x.c) ∧ w'.cell? (⟨(sad.add (k * 3)).block, (sad.add (k * 3)).off + 2, none⟩) = some (.int .i64 x.auto)) ∧ (w'.cell? (sad.add (m * 3)) = some (.string y.name) ∧ w'.cell? (⟨(sad.add (m * 3)).block, (sad.add (m * 3)).off + 1, none⟩) = some (.slice y.a y.xs.length y.c) ∧ w'.cell? (⟨(sad.add (m * 3)).block, (sad.add (m * 3)).off + 2, none⟩) = some (.int .i64 y.auto)))) (by kernel_rfl) ⟨Bag.cs4 (Bag.drew1 S2.out) 0 rfl, HKx.out _ (Bag.drew1 S2.out).old, HKy.out _ (Bag.drew1 S2.out).old⟩ (fun hS => ?_)
      have S3 := Lib.hid (Bag.drew1 S2.out)
      clear S2
      generalize World.drew _ = w1 at hS S3 ⊢
      refine tk 0 rfl ?_
      try simp only [zp0, zp1, zp2, zp3, zp4]
      refine tk 1 rfl ?_
      try simp only [zp0, zp1, zp2, zp3, zp4]
      refine tk 2 rfl ?_
      try simp only [zp0, zp1, zp2, zp3, zp4]
      refine tk 3 rfl ?_
      try simp only [zp0, zp1, zp2, zp3, zp4]
      refine tk 4 rfl ?_
      try simp only [zp0, zp1, zp2, zp3, zp4]
      refine Reg.one_op (i := 5) rfl (by kernel_rfl) (fun K hK => ?_)
      go_simp
      go_at_call 62
      refine (HIK.out _ S3.out.old).mono ?_
      rintro e w2 ⟨rfl, hb⟩
      have S4 := Lib.hid (S3.out.keep hb)
      clear S3
      clear hb
      go_wp2_with fail
      refine hK.out _ _ ⟨Bag.cs4 S4.out 0 rfl, HKx.out _ S4.out.old, HKy.out _ S4.out.old⟩ (fun hS => ?_)
      clear hK K
      try simp only [zp0, zp1, zp2, zp3, zp4]
      refine tk 6 rfl ?_
      try simp only [zp0, zp1, zp2, zp3, zp4]
      refine tk 7 rfl ?_
      try simp only [zp0, zp1, zp2, zp3, zp4]
      refine tk 8 rfl ?_
      try simp only [zp0, zp1, zp2, zp3, zp4]
      refine tk 9 rfl ?_
      try simp only [zp0, zp1, zp2, zp3, zp4]
      refine tk 10 rfl ?_
      try simp only [zp0, zp1, zp2, zp3, zp4]
      refine tk 11 rfl ?_
      try simp only [zp0, zp1, zp2, zp3, zp4]
      refine tk 12 rfl ?_
      try simp only [zp0, zp1, zp2, zp3, zp4]
      refine tk 13 rfl ?_
      try simp only [zp0, zp1, zp2, zp3, zp4]
      refine tk 14 rfl ?_
      try simp only [zp0, zp1, zp2, zp3, zp4]
      refine tk 15 rfl ?_
      try simp only [zp0, zp1, zp2, zp3, zp4]
      refine tk 16 rfl ?_
      try simp only [zp0, zp1, zp2, zp3, zp4]
      refine tk 17 rfl ?_
      try simp only [zp0, zp1, zp2, zp3, zp4]
      refine tk 18 rfl ?_
      try simp only [zp0, zp1, zp2, zp3, zp4]
      refine tk 19 rfl ?_
      try simp only [zp0, zp1, zp2, zp3, zp4]
      refine tk 20 rfl ?_
      try simp only [zp0, zp1, zp2, zp3, zp4]
      refine tk 21 rfl ?_
      try simp only [zp0, zp1, zp2, zp3, zp4]
      refine tk 22 rfl ?_
      try simp only [zp0, zp1, zp2, zp3, zp4]
      refine tk 23 rfl ?_
      try simp only [zp0, zp1, zp2, zp3, zp4]
      refine tk 24 rfl ?_
      try simp only [zp0, zp1, zp2, zp3, zp4]
      refine tk 25 rfl ?_
      try simp only [zp0, zp1, zp2, zp3, zp4]
      refine tk 26 rfl ?_
      try simp only [zp0, zp1, zp2, zp3, zp4]
      refine wpAnyH_done (by kernel_rfl) ?_ _
      obtain ⟨f0, f1, f2, f3⟩ := Bag.cs4 S4.out 0 rfl
      obtain ⟨f4, f5, f6⟩ := HKx.out _ S4.out.old
      obtain ⟨f7, f8, f9⟩ := HKy.out _ S4.out.old
      go_wp2_with fail
      go_roundw
      case rel => exact ⟨k + 1, by omega, by go_num, And.intro (fun j h => by
       by_cases e : j < k
       ·
        exact HA.out j e
       ·
        obtain rfl : j = k := by omega
        rw [okSx_at HCx.out, HBK.out, HKM.out, ahead8_at HCy.out]; exact hc) S4.out⟩
      case measure => simp [intOf]; omega
  ·
   skip
   obtain rfl : k = N := by omega
   have HS1 := Lib.hid (show allTo (okSx (coS_Store ss)) (coS_Store ss).length = true from allTo_all (fun i hi => HA.out i (by rw [HSL.out] at hi; exact hi)))
   clear HA
   obtain ⟨f0, f1, f2, f3⟩ := Bag.cs4 S2.out 0 rfl
   go_wp2_with fail
   clear f0 f1 f2 f3
   go_loopw [4] (fun i wr => ∃ j : Nat, j ≤ M ∧ i = .int .i64 j ∧ Hid ((∀ q, q < j → okUx (coS_Store ss) us q = true) ∧ Sl.Sep w wr [L4.boxR w.heap.size 33 #[.string name, .int .i64 ver, .slice sa k sc, .slice ua M uc]])) (fun i _ => M - (intOf i).toNat)
   case atStart => exact ⟨0, Nat.zero_le _, rfl, And.intro (fun j h => absurd h (by omega)) S2.out⟩
   case round =>
    obtain ⟨j, hj, rfl, hrel⟩ := hrel
    have HA := Lib.hid hrel.out.1
    have S3 := Lib.hid hrel.out.2
    clear hrel S2
    by_cases hlt2 : (j : Int) < (M : Int)
    ·
     skip
     have hjl : j < us.length := by have := HM.out; omega
     obtain ⟨u, hu⟩ : ∃ x, us[j]? = some x := ⟨_, List.getElem?_eq_getElem hjl⟩
     obtain ⟨uad, e'⟩ := el_some cl_IndexDef_len (by decide) (HU.out _ S3.out.old) hjl
     subst e'
     have HKu := Lib.hid (fun w' (h : Below w.heap.size w w') => el2 cl_IndexDef_len (HU.out _ h) hu rfl)
     have HFu := Lib.hid (HFD.out.unique _ (List.mem_of_getElem? hu))
     have HCu := Lib.hid hu
     clear hu
     have HFI := fun w' (h : Below w.heap.size w w') => HFS.out u.f_Store w' h
     cases hfo : fndS (coS_Store ss) u.f_Store with
     | none =>
      rw [hfo] at HFI
      dsimp only [numO] at HFI
      replace HFI := Lib.hid HFI
      have HFO := Lib.hid hfo
      clear hfo
      obtain ⟨f0, f1, f2, f3⟩ := Bag.cs4 S3.out 0 rfl
      obtain ⟨f4, f5⟩ := HKu.out _ S3.out.old
      go_upto_region 9 with fail
      clear f0 f1 f2 f3 f4 f5
      refine wp_region_held_drew (S := (fun w' => (w'.cell? ⟨w.heap.size, 0, none⟩ = some (.string name) ∧ w'.cell? ⟨w.heap.size, 1, none⟩ = some (.int .i64 ver) ∧ w'.cell? ⟨w.heap.size, 2, none⟩ = some (.slice sa k sc) ∧ w'.cell? ⟨w.heap.size, 3, none⟩ = some (.slice (some uad) M uc)) ∧ (w'.cell? (uad.add (j * 2)) = some (.string u.f_Store) ∧ w'.cell? (⟨(uad.add (j * 2)).block, (uad.add (j * 2)).off + 1, none⟩) = some (.string u.f_Field)))) (by kernel_rfl) ⟨Bag.cs4 (Bag.drew1 S3.out) 0 rfl, HKu.out _ (Bag.drew1 S3.out).old⟩ (fun hS => ?_)
      have S4 := Lib.hid (Bag.drew1 S3.out)
      clear S3
      generalize World.drew _ = w1 at hS S4 ⊢
      refine tk 0 rfl ?_
      try simp only [zp0, zp1, zp2, zp3, zp4]
      refine tk 1 rfl ?_
      try simp only [zp0, zp1, zp2, zp3, zp4]
      refine tk 2 rfl ?_
      try simp only [zp0, zp1, zp2, zp3, zp4]
      refine tk 3 rfl ?_
      try simp only [zp0, zp1, zp2, zp3, zp4]
      refine tk 4 rfl ?_
      try simp only [zp0, zp1, zp2, zp3, zp4]
      refine tk 5 rfl ?_
      try simp only [zp0, zp1, zp2, zp3, zp4]
      refine tk 6 rfl ?_
      try simp only [zp0, zp1, zp2, zp3, zp4]
      refine Reg.one_op (i := 7) rfl (by kernel_rfl) (fun K hK => ?_)
      go_simp
      go_at_call 31
      refine (HFI.out _ S4.out.old).mono ?_
      rintro e w2 ⟨rfl, hb⟩
      have S5 := Lib.hid (S4.out.keep hb)
      clear S4
      clear hb
      go_wp2_with fail
      refine hK.out _ _ ⟨Bag.cs4 S5.out 0 rfl, HKu.out _ S5.out.old⟩ (fun hS => ?_)
      clear hK K
      try simp only [zp0, zp1, zp2, zp3, zp4]
      refine tk 8 rfl ?_
      try simp only [zp0, zp1, zp2, zp3, zp4]
      refine wpAnyH_done (by kernel_rfl) ?_ _
      obtain ⟨f0, f1, f2, f3⟩ := Bag.cs4 S5.out 0 rfl
      obtain ⟨f4, f5⟩ := HKu.out _ S5.out.old
      have HNO := Lib.hid (show B = false from by rw [← HB.out]; unfold isD; dsimp only; rw [HS1.out, allTo_no j hjl (by rw [okUx_at HCu.out, show keptX (coS_Store ss) u = false from by unfold keptX; rw [HFO.out]]; rfl)]; rfl)
      go_wp2_with fail
      go_ret
      exact ⟨by rw [HNO.out] <;> rfl, S5.out.old⟩
     | some i =>
      have hil : i < ss.length := by obtain ⟨h1, _⟩ := idx_some hfo; rw [coS_len] at h1; exact h1
      have hiN : (i : Int) < (k : Int) := by have := HN.out; omega
      rw [hfo] at HFI
      dsimp only [numO] at HFI
      replace HFI := Lib.hid HFI
      have HFO := Lib.hid hfo
      clear hfo
      obtain ⟨f0, f1, f2, f3⟩ := Bag.cs4 S3.out 0 rfl
      obtain ⟨f4, f5⟩ := HKu.out _ S3.out.old
      go_upto_region 9 with fail
      clear f0 f1 f2 f3 f4 f5
      refine wp_region_held_drew (S := (fun w' => (w'.cell? ⟨w.heap.size, 0, none⟩ = some (.string name) ∧ w'.cell? ⟨w.heap.size, 1, none⟩ = some (.int .i64 ver) ∧ w'.cell? ⟨w.heap.size, 2, none⟩ = some (.slice sa k sc) ∧ w'.cell? ⟨w.heap.size, 3, none⟩ = some (.slice (some uad) M uc)) ∧ (w'.cell? (uad.add (j * 2)) = some (.string u.f_Store) ∧ w'.cell? (⟨(uad.add (j * 2)).block, (uad.add (j * 2)).off + 1, none⟩) = some (.string u.f_Field)))) (by kernel_rfl) ⟨Bag.cs4 (Bag.drew1 S3.out) 0 rfl, HKu.out _ (Bag.drew1 S3.out).old⟩ (fun hS => ?_)
      have S4 := Lib.hid (Bag.drew1 S3.out)
      clear S3
      generalize World.drew _ = w1 at hS S4 ⊢
      refine tk 0 rfl ?_
      try simp only [zp0, zp1, zp2, zp3, zp4]
      refine tk 1 rfl ?_
      try simp only [zp0, zp1, zp2, zp3, zp4]
      refine tk 2 rfl ?_
      try simp only [zp0, zp1, zp2, zp3, zp4]
      refine tk 3 rfl ?_
      try simp only [zp0, zp1, zp2, zp3, zp4]
      refine tk 4 rfl ?_
      try simp only [zp0, zp1, zp2, zp3, zp4]
      refine tk 5 rfl ?_
      try simp only [zp0, zp1, zp2, zp3, zp4]
      refine tk 6 rfl ?_
      try simp only [zp0, zp1, zp2, zp3, zp4]
      refine Reg.one_op (i := 7) rfl (by kernel_rfl) (fun K hK => ?_)
      go_simp
      go_at_call 31
      refine (HFI.out _ S4.out.old).mono ?_
      rintro e w2 ⟨rfl, hb⟩
      have S5 := Lib.hid (S4.out.keep hb)
      clear S4
      clear hb
      go_wp2_with fail
      refine hK.out _ _ ⟨Bag.cs4 S5.out 0 rfl, HKu.out _ S5.out.old⟩ (fun hS => ?_)
      clear hK K
      try simp only [zp0, zp1, zp2, zp3, zp4]
      refine tk 8 rfl ?_
      try simp only [zp0, zp1, zp2, zp3, zp4]
      refine wpAnyH_done (by kernel_rfl) ?_ _
      obtain ⟨f0, f1, f2, f3⟩ := Bag.cs4 S5.out 0 rfl
      obtain ⟨f4, f5⟩ := HKu.out _ S5.out.old
      clear f0 f1 f2 f3 f4 f5
      obtain ⟨bn, hbn⟩ : ∃ b, isN u.f_Field.data.toList = b := ⟨_, rfl⟩
      have HIN := fun w => L5.specIsName_any u.f_Field HFu.out.field w
      rw [hbn] at HIN
      replace HIN := Lib.hid HIN
      have HBN := Lib.hid hbn
      clear hbn
      obtain ⟨f0, f1, f2, f3⟩ := Bag.cs4 S5.out 0 rfl
      obtain ⟨f4, f5⟩ := HKu.out _ S5.out.old
      cases bn with
      | false =>
       go_wp2_with fail
       go_at_call 63
       refine (HIN.out _).mono ?_
       rintro e w3 ⟨rfl, rfl⟩
       have HNO := Lib.hid (show B = false from by rw [← HB.out]; unfold isD; dsimp only; rw [HS1.out, allTo_no j hjl (by rw [okUx_at HCu.out, show keptX (coS_Store ss) u = false from by unfold keptX; rw [HFO.out]; dsimp only; rw [HBN.out]; rfl]; rfl)]; rfl)
       go_wp2_with fail
       go_ret
       exact ⟨by rw [HNO.out] <;> rfl, S5.out.old⟩
      | true =>
       go_wp2_with fail
       go_at_call 63
       refine (HIN.out _).mono ?_
       rintro e w3 ⟨rfl, rfl⟩
       clear f0 f1 f2 f3 f4 f5
       obtain ⟨x, hx⟩ : ∃ x, ss[i]? = some x := ⟨_, List.getElem?_eq_getElem hil⟩
       obtain ⟨sad, e'⟩ := el_some cl_Store_len (by decide) (HR.out _ S5.out.old) hil
       subst e'
       have HKx := Lib.hid (fun w' (h : Below w.heap.size w w') => el3 cl_Store_len (HR.out _ h) hx rfl)
       have HRx := Lib.hid (fun w' (h : Below w.heap.size w w') => rd_store (HX.out w' h) hx)
       have HFx := Lib.hid (fit_store HFD.out.stores hx)
       have HCx := Lib.hid (coS_at hx)
       clear hx
       obtain ⟨bu, hbu⟩ : ∃ b, ufB u.f_Field.data.toList (idxI x.con.items u.f_Field.data.toList) = b := ⟨_, rfl⟩
       obtain ⟨KA, hKA⟩ : ∃ b, ufA u.f_Field.data.toList (idxI x.con.items u.f_Field.data.toList) = b := ⟨_, rfl⟩
       obtain ⟨KZ, hKZ⟩ : ∃ b, ufZ u.f_Field.data.toList (idxI x.con.items u.f_Field.data.toList) = b := ⟨_, rfl⟩
       have HUF := fun w' (h : Below w.heap.size w w') => specUniqueFault_any x u.f_Field HFx.out w' (HRx.out w' h)
       rw [hbu, hKA, hKZ] at HUF
       dsimp only [LS.v, LS.cells, K.v] at HUF
       replace HUF := Lib.hid HUF
       have HBX := Lib.hid (show badX (coS_Store ss) i u.f_Field = bu from by unfold badX; rw [HCx.out]; exact hbu)
       clear hbu hKA hKZ
       have HKP := Lib.hid (show keptX (coS_Store ss) u = !bu from by unfold keptX; rw [HFO.out]; dsimp only; rw [HBN.out, HBX.out]; cases bu <;> rfl)
       skip
       go_upto_region 12 with fail
       go_cut [8] (fun z wx => z = .bool bu ∧ Hid (Sl.Sep w wx [L4.boxR w.heap.size 33 #[.string name, .int .i64 ver, .slice (some sad) k sc, .slice (some uad) M uc]]))
       case first =>
        obtain ⟨f0, f1, f2, f3⟩ := Bag.cs4 S5.out 0 rfl
        obtain ⟨f4, f5⟩ := HKu.out _ S5.out.old
        obtain ⟨f6, f7, f8⟩ := HKx.out _ S5.out.old
        clear f0 f1 f2 f3 f4 f5 f6 f7 f8
        refine wp_region_held_drew (S := (fun w' => (w'.cell? ⟨w.heap.size, 0, none⟩ = some (.string name) ∧ w'.cell? ⟨w.heap.size, 1, none⟩ = some (.int .i64 ver) ∧ w'.cell? ⟨w.heap.size, 2, none⟩ = some (.slice (some sad) k sc) ∧ w'.cell? ⟨w.heap.size, 3, none⟩ = some (.slice (some uad) M uc)) ∧ (w'.cell? (uad.add (j * 2)) = some (.string u.f_Store) ∧ w'.cell? (⟨(uad.add (j * 2)).block, (uad.add (j * 2)).off + 1, none⟩) = some (.string u.f_Field)) ∧ (w'.cell? (sad.add (i * 3)) = some (.string x.name) ∧ w'.cell? (⟨(sad.add (i * 3)).block, (sad.add (i * 3)).off + 1, none⟩) = some (.slice x.a x.xs.length x.c) ∧ w'.cell? (⟨(sad.add (i * 3)).block, (sad.add (i * 3)).off + 2, none⟩) = some (.int .i64 x.auto)))) (by kernel_rfl) ⟨Bag.cs4 (Bag.drew1 S5.out) 0 rfl, HKu.out _ (Bag.drew1 S5.out).old, HKx.out _ (Bag.drew1 S5.out).old⟩ (fun hS => ?_)
        have S6 := Lib.hid (Bag.drew1 S5.out)
        clear S5
        generalize World.drew _ = w4 at hS S6 ⊢
        refine tk 0 rfl ?_
        try simp only [zp0, zp1, zp2, zp3, zp4]
        refine tk 1 rfl ?_
        try simp only [zp0, zp1, zp2, zp3, zp4]
        refine tk 2 rfl ?_
        try simp only [zp0, zp1, zp2, zp3, zp4]
        refine tk 3 rfl ?_
        try simp only [zp0, zp1, zp2, zp3, zp4]
        refine tk 4 rfl ?_
        try simp only [zp0, zp1, zp2, zp3, zp4]
        refine tk 5 rfl ?_
        try simp only [zp0, zp1, zp2, zp3, zp4]
        refine tk 6 rfl ?_
        try simp only [zp0, zp1, zp2, zp3, zp4]
        refine tk 7 rfl ?_
        try simp only [zp0, zp1, zp2, zp3, zp4]
        refine tk 8 rfl ?_
        try simp only [zp0, zp1, zp2, zp3, zp4]
        refine tk 9 rfl ?_
        try simp only [zp0, zp1, zp2, zp3, zp4]
        refine tk 10 rfl ?_
        try simp only [zp0, zp1, zp2, zp3, zp4]
        refine wpAnyH_ready (rs := [11, 16, 17]) (by kernel_rfl) (by simp) ?_
        refine Reg.cons_op (i := 11) rfl (fun K hK => ?_) ?_
        ·
         skip
         go_simp
         go_at_call 64
         refine (HUF.out _ S6.out.old).mono ?_
         rintro e w5 ⟨rfl, hb⟩
         have S7 := Lib.hid (S6.out.keep hb)
         clear S6
         clear hb
         go_wp2_with fail
         refine hK.out _ _ ⟨Bag.cs4 S7.out 0 rfl, HKu.out _ S7.out.old, HKx.out _ S7.out.old⟩ (fun hS => ?_)
         clear hK K
         try simp only [zp0, zp1, zp2, zp3, zp4]
         refine tk 12 rfl ?_
         try simp only [zp0, zp1, zp2, zp3, zp4]
         refine tk 13 rfl ?_
         try simp only [zp0, zp1, zp2, zp3, zp4]
         refine tk 14 rfl ?_
         try simp only [zp0, zp1, zp2, zp3, zp4]
         refine tk 15 rfl ?_
         try simp only [zp0, zp1, zp2, zp3, zp4]
         refine wpAnyH_ready (rs := [16, 17]) (by kernel_rfl) (by simp) ?_
         refine Reg.cons_op (i := 16) rfl (fun K hK => ?_) ?_
         ·
          skip
          go_simp
          have S8 := Lib.hid (show Sl.Sep w _ [_, _] from L4.push_box S7.out 110 #[.int .i64 0, .int .i64 0, .string ⟨#[]⟩] w5.heap.size rfl)
          clear S7
          obtain ⟨g1, hg⟩ : ∃ g', g' = w5.heap.size := ⟨_, rfl⟩
          rw [← hg] at S8 ⊢
          clear hg
          generalize w5.alloc (.cells #[.int .i64 0, .int .i64 0, .string ⟨#[]⟩] 110) = w6 at S8 ⊢
          refine hK.out _ _ ⟨Bag.cs4 S8.out 0 rfl, HKu.out _ S8.out.old, HKx.out _ S8.out.old⟩ (fun hS => ?_)
          clear hK K
          try simp only [zp0, zp1, zp2, zp3, zp4]
          refine Reg.one_op (i := 17) rfl (by kernel_rfl) (fun K hK => ?_)
          go_simp
          have S9 := Lib.hid (show Sl.Sep w _ [_, _, _] from L4.push_box S8.out 110 #[.int .i64 0, .int .i64 0, .string ⟨#[]⟩] w6.heap.size rfl)
          clear S8
          obtain ⟨g2, hg⟩ : ∃ g', g' = w6.heap.size := ⟨_, rfl⟩
          rw [← hg] at S9 ⊢
          clear hg
          generalize w6.alloc (.cells #[.int .i64 0, .int .i64 0, .string ⟨#[]⟩] 110) = w7 at S9 ⊢
          refine hK.out _ _ ⟨Bag.cs4 S9.out 0 rfl, HKu.out _ S9.out.old, HKx.out _ S9.out.old⟩ (fun hS => ?_)
          clear hK K
          try simp only [zp0, zp1, zp2, zp3, zp4]
          refine Reg.one_op (i := 18) rfl (by kernel_rfl) (fun K hK => ?_)
          obtain ⟨f0, f1, f2⟩ := Bag.cs3 S9.out 1 rfl
          obtain ⟨z0, z1, z2⟩ := Bag.fs3 S9.out 1 rfl
          go_simp
          clear f0 f1 f2 z0 z1 z2
          have S10 := Lib.hid (show Sl.Sep w _ [_, L4.boxR g1 110 #[.int .i64 KA.kind, .int .i64 KA.n, .string KA.text], L4.boxR g2 110 #[.int .i64 0, .int .i64 0, .string ⟨#[]⟩]] from L5.put_box5 (L5.put_box5 (L5.put_box5 (S9.out) 1 rfl 0 (.int .i64 KA.kind)) 1 rfl 1 (.int .i64 KA.n)) 1 rfl 2 (.string KA.text))
          clear S9
          refine hK.out _ _ ⟨Bag.cs4 S10.out 0 rfl, HKu.out _ S10.out.old, HKx.out _ S10.out.old⟩ (fun hS => ?_)
          clear hK K
          try simp only [zp0, zp1, zp2, zp3, zp4]
          refine Reg.one_op (i := 19) rfl (by kernel_rfl) (fun K hK => ?_)
          obtain ⟨f0, f1, f2⟩ := Bag.cs3 S10.out 2 rfl
          obtain ⟨z0, z1, z2⟩ := Bag.fs3 S10.out 2 rfl
          go_simp
          clear f0 f1 f2 z0 z1 z2
          have S11 := Lib.hid (show Sl.Sep w _ [_, _, L4.boxR g2 110 #[.int .i64 KZ.kind, .int .i64 KZ.n, .string KZ.text]] from L5.put_box5 (L5.put_box5 (L5.put_box5 (S10.out) 2 rfl 0 (.int .i64 KZ.kind)) 2 rfl 1 (.int .i64 KZ.n)) 2 rfl 2 (.string KZ.text))
          clear S10
          refine hK.out _ _ ⟨Bag.cs4 S11.out 0 rfl, HKu.out _ S11.out.old, HKx.out _ S11.out.old⟩ (fun hS => ?_)
          clear hK K
          try simp only [zp0, zp1, zp2, zp3, zp4]
          refine tk 20 rfl ?_
          try simp only [zp0, zp1, zp2, zp3, zp4]
          refine wpAnyH_done (by kernel_rfl) ?_ _
          obtain ⟨f0, f1, f2, f3⟩ := Bag.cs4 S11.out 0 rfl
          obtain ⟨f4, f5, f6⟩ := Bag.cs3 S11.out 1 rfl
          obtain ⟨f7, f8, f9⟩ := Bag.cs3 S11.out 2 rfl
          obtain ⟨f10, f11⟩ := HKu.out _ S11.out.old
          obtain ⟨f12, f13, f14⟩ := HKx.out _ S11.out.old
          clear f0 f1 f2 f3 f4 f5 f6 f7 f8 f9 f10 f11 f12 f13 f14
          have S12 := Lib.hid (show Sl.Sep w _ [_] from Bag.take S11.out [0] (by rfl) (by decide))
          clear S11
          go_wp2_with fail
          go_meet
          case rel => exact ⟨rfl, S12.out⟩
         refine Reg.cons_op (i := 17) rfl (fun K hK => ?_) ?_
         ·
          skip
          go_simp
          have S8 := Lib.hid (show Sl.Sep w _ [_, _] from L4.push_box S7.out 110 #[.int .i64 0, .int .i64 0, .string ⟨#[]⟩] w5.heap.size rfl)
          clear S7
          obtain ⟨g1, hg⟩ : ∃ g', g' = w5.heap.size := ⟨_, rfl⟩
          rw [← hg] at S8 ⊢
          clear hg
          generalize w5.alloc (.cells #[.int .i64 0, .int .i64 0, .string ⟨#[]⟩] 110) = w6 at S8 ⊢
          refine hK.out _ _ ⟨Bag.cs4 S8.out 0 rfl, HKu.out _ S8.out.old, HKx.out _ S8.out.old⟩ (fun hS => ?_)
          clear hK K
          try simp only [zp0, zp1, zp2, zp3, zp4]
          refine Reg.one_op (i := 16) rfl (by kernel_rfl) (fun K hK => ?_)
          go_simp
          have S9 := Lib.hid (show Sl.Sep w _ [_, _, _] from L4.push_box S8.out 110 #[.int .i64 0, .int .i64 0, .string ⟨#[]⟩] w6.heap.size rfl)
          clear S8
          obtain ⟨g2, hg⟩ : ∃ g', g' = w6.heap.size := ⟨_, rfl⟩
          rw [← hg] at S9 ⊢
          clear hg
          generalize w6.alloc (.cells #[.int .i64 0, .int .i64 0, .string ⟨#[]⟩] 110) = w7 at S9 ⊢
          refine hK.out _ _ ⟨Bag.cs4 S9.out 0 rfl, HKu.out _ S9.out.old, HKx.out _ S9.out.old⟩ (fun hS => ?_)
          clear hK K
          try simp only [zp0, zp1, zp2, zp3, zp4]
          refine Reg.one_op (i := 18) rfl (by kernel_rfl) (fun K hK => ?_)
          obtain ⟨f0, f1, f2⟩ := Bag.cs3 S9.out 2 rfl
          obtain ⟨z0, z1, z2⟩ := Bag.fs3 S9.out 2 rfl
          go_simp
          clear f0 f1 f2 z0 z1 z2
          have S10 := Lib.hid (show Sl.Sep w _ [_, _, L4.boxR g2 110 #[.int .i64 KA.kind, .int .i64 KA.n, .string KA.text]] from L5.put_box5 (L5.put_box5 (L5.put_box5 (S9.out) 2 rfl 0 (.int .i64 KA.kind)) 2 rfl 1 (.int .i64 KA.n)) 2 rfl 2 (.string KA.text))
          clear S9
          refine hK.out _ _ ⟨Bag.cs4 S10.out 0 rfl, HKu.out _ S10.out.old, HKx.out _ S10.out.old⟩ (fun hS => ?_)
          clear hK K
          try simp only [zp0, zp1, zp2, zp3, zp4]
          refine Reg.one_op (i := 19) rfl (by kernel_rfl) (fun K hK => ?_)
          obtain ⟨f0, f1, f2⟩ := Bag.cs3 S10.out 1 rfl
          obtain ⟨z0, z1, z2⟩ := Bag.fs3 S10.out 1 rfl
          go_simp
          clear f0 f1 f2 z0 z1 z2
          have S11 := Lib.hid (show Sl.Sep w _ [_, L4.boxR g1 110 #[.int .i64 KZ.kind, .int .i64 KZ.n, .string KZ.text], _] from L5.put_box5 (L5.put_box5 (L5.put_box5 (S10.out) 1 rfl 0 (.int .i64 KZ.kind)) 1 rfl 1 (.int .i64 KZ.n)) 1 rfl 2 (.string KZ.text))
          clear S10
          refine hK.out _ _ ⟨Bag.cs4 S11.out 0 rfl, HKu.out _ S11.out.old, HKx.out _ S11.out.old⟩ (fun hS => ?_)
          clear hK K
          try simp only [zp0, zp1, zp2, zp3, zp4]
          refine tk 20 rfl ?_
          try simp only [zp0, zp1, zp2, zp3, zp4]
          refine wpAnyH_done (by kernel_rfl) ?_ _
          obtain ⟨f0, f1, f2, f3⟩ := Bag.cs4 S11.out 0 rfl
          obtain ⟨f4, f5, f6⟩ := Bag.cs3 S11.out 1 rfl
          obtain ⟨f7, f8, f9⟩ := Bag.cs3 S11.out 2 rfl
          obtain ⟨f10, f11⟩ := HKu.out _ S11.out.old
          obtain ⟨f12, f13, f14⟩ := HKx.out _ S11.out.old
          clear f0 f1 f2 f3 f4 f5 f6 f7 f8 f9 f10 f11 f12 f13 f14
          have S12 := Lib.hid (show Sl.Sep w _ [_] from Bag.take S11.out [0] (by rfl) (by decide))
          clear S11
          go_wp2_with fail
          go_meet
          case rel => exact ⟨rfl, S12.out⟩
         exact AllReadyH.nil
        refine Reg.cons_op (i := 16) rfl (fun K hK => ?_) ?_
        ·
         skip
         go_simp
         have S7 := Lib.hid (show Sl.Sep w _ [_, _] from L4.push_box S6.out 110 #[.int .i64 0, .int .i64 0, .string ⟨#[]⟩] w4.heap.size rfl)
         clear S6
         obtain ⟨g1, hg⟩ : ∃ g', g' = w4.heap.size := ⟨_, rfl⟩
         rw [← hg] at S7 ⊢
         clear hg
         generalize w4.alloc (.cells #[.int .i64 0, .int .i64 0, .string ⟨#[]⟩] 110) = w5 at S7 ⊢
         refine hK.out _ _ ⟨Bag.cs4 S7.out 0 rfl, HKu.out _ S7.out.old, HKx.out _ S7.out.old⟩ (fun hS => ?_)
         clear hK K
         try simp only [zp0, zp1, zp2, zp3, zp4]
         refine wpAnyH_ready (rs := [11, 17]) (by kernel_rfl) (by simp) ?_
         refine Reg.cons_op (i := 11) rfl (fun K hK => ?_) ?_
         ·
          skip
          go_simp
          go_at_call 64
          refine (HUF.out _ S7.out.old).mono ?_
          rintro e w6 ⟨rfl, hb⟩
          have S8 := Lib.hid (S7.out.keep hb)
          clear S7
          clear hb
          go_wp2_with fail
          refine hK.out _ _ ⟨Bag.cs4 S8.out 0 rfl, HKu.out _ S8.out.old, HKx.out _ S8.out.old⟩ (fun hS => ?_)
          clear hK K
          try simp only [zp0, zp1, zp2, zp3, zp4]
          refine tk 12 rfl ?_
          try simp only [zp0, zp1, zp2, zp3, zp4]
          refine tk 13 rfl ?_
          try simp only [zp0, zp1, zp2, zp3, zp4]
          refine tk 14 rfl ?_
          try simp only [zp0, zp1, zp2, zp3, zp4]
          refine tk 15 rfl ?_
          try simp only [zp0, zp1, zp2, zp3, zp4]
          refine Reg.one_op (i := 17) rfl (by kernel_rfl) (fun K hK => ?_)
          go_simp
          have S9 := Lib.hid (show Sl.Sep w _ [_, _, _] from L4.push_box S8.out 110 #[.int .i64 0, .int .i64 0, .string ⟨#[]⟩] w6.heap.size rfl)
          clear S8
          obtain ⟨g2, hg⟩ : ∃ g', g' = w6.heap.size := ⟨_, rfl⟩
          rw [← hg] at S9 ⊢
          clear hg
          generalize w6.alloc (.cells #[.int .i64 0, .int .i64 0, .string ⟨#[]⟩] 110) = w7 at S9 ⊢
          refine hK.out _ _ ⟨Bag.cs4 S9.out 0 rfl, HKu.out _ S9.out.old, HKx.out _ S9.out.old⟩ (fun hS => ?_)
          clear hK K
          try simp only [zp0, zp1, zp2, zp3, zp4]
          refine Reg.one_op (i := 18) rfl (by kernel_rfl) (fun K hK => ?_)
          obtain ⟨f0, f1, f2⟩ := Bag.cs3 S9.out 1 rfl
          obtain ⟨z0, z1, z2⟩ := Bag.fs3 S9.out 1 rfl
          go_simp
          clear f0 f1 f2 z0 z1 z2
          have S10 := Lib.hid (show Sl.Sep w _ [_, L4.boxR g1 110 #[.int .i64 KA.kind, .int .i64 KA.n, .string KA.text], L4.boxR g2 110 #[.int .i64 0, .int .i64 0, .string ⟨#[]⟩]] from L5.put_box5 (L5.put_box5 (L5.put_box5 (S9.out) 1 rfl 0 (.int .i64 KA.kind)) 1 rfl 1 (.int .i64 KA.n)) 1 rfl 2 (.string KA.text))
          clear S9
          refine hK.out _ _ ⟨Bag.cs4 S10.out 0 rfl, HKu.out _ S10.out.old, HKx.out _ S10.out.old⟩ (fun hS => ?_)
          clear hK K
          try simp only [zp0, zp1, zp2, zp3, zp4]
          refine Reg.one_op (i := 19) rfl (by kernel_rfl) (fun K hK => ?_)
          obtain ⟨f0, f1, f2⟩ := Bag.cs3 S10.out 2 rfl
          obtain ⟨z0, z1, z2⟩ := Bag.fs3 S10.out 2 rfl
          go_simp
          clear f0 f1 f2 z0 z1 z2
          have S11 := Lib.hid (show Sl.Sep w _ [_, _, L4.boxR g2 110 #[.int .i64 KZ.kind, .int .i64 KZ.n, .string KZ.text]] from L5.put_box5 (L5.put_box5 (L5.put_box5 (S10.out) 2 rfl 0 (.int .i64 KZ.kind)) 2 rfl 1 (.int .i64 KZ.n)) 2 rfl 2 (.string KZ.text))
          clear S10
          refine hK.out _ _ ⟨Bag.cs4 S11.out 0 rfl, HKu.out _ S11.out.old, HKx.out _ S11.out.old⟩ (fun hS => ?_)
          clear hK K
          try simp only [zp0, zp1, zp2, zp3, zp4]
          refine tk 20 rfl ?_
          try simp only [zp0, zp1, zp2, zp3, zp4]
          refine wpAnyH_done (by kernel_rfl) ?_ _
          obtain ⟨f0, f1, f2, f3⟩ := Bag.cs4 S11.out 0 rfl
          obtain ⟨f4, f5, f6⟩ := Bag.cs3 S11.out 1 rfl
          obtain ⟨f7, f8, f9⟩ := Bag.cs3 S11.out 2 rfl
          obtain ⟨f10, f11⟩ := HKu.out _ S11.out.old
          obtain ⟨f12, f13, f14⟩ := HKx.out _ S11.out.old
          clear f0 f1 f2 f3 f4 f5 f6 f7 f8 f9 f10 f11 f12 f13 f14
          have S12 := Lib.hid (show Sl.Sep w _ [_] from Bag.take S11.out [0] (by rfl) (by decide))
          clear S11
          go_wp2_with fail
          go_meet
          case rel => exact ⟨rfl, S12.out⟩
         refine Reg.cons_op (i := 17) rfl (fun K hK => ?_) ?_
         ·
          skip
          go_simp
          have S8 := Lib.hid (show Sl.Sep w _ [_, _, _] from L4.push_box S7.out 110 #[.int .i64 0, .int .i64 0, .string ⟨#[]⟩] w5.heap.size rfl)
          clear S7
          obtain ⟨g2, hg⟩ : ∃ g', g' = w5.heap.size := ⟨_, rfl⟩
          rw [← hg] at S8 ⊢
          clear hg
          generalize w5.alloc (.cells #[.int .i64 0, .int .i64 0, .string ⟨#[]⟩] 110) = w6 at S8 ⊢
          refine hK.out _ _ ⟨Bag.cs4 S8.out 0 rfl, HKu.out _ S8.out.old, HKx.out _ S8.out.old⟩ (fun hS => ?_)
          clear hK K
          try simp only [zp0, zp1, zp2, zp3, zp4]
          refine Reg.one_op (i := 11) rfl (by kernel_rfl) (fun K hK => ?_)
          go_simp
          go_at_call 64
          refine (HUF.out _ S8.out.old).mono ?_
          rintro e w7 ⟨rfl, hb⟩
          have S9 := Lib.hid (S8.out.keep hb)
          clear S8
          clear hb
          go_wp2_with fail
          refine hK.out _ _ ⟨Bag.cs4 S9.out 0 rfl, HKu.out _ S9.out.old, HKx.out _ S9.out.old⟩ (fun hS => ?_)
          clear hK K
          try simp only [zp0, zp1, zp2, zp3, zp4]
          refine tk 12 rfl ?_
          try simp only [zp0, zp1, zp2, zp3, zp4]
          refine tk 13 rfl ?_
          try simp only [zp0, zp1, zp2, zp3, zp4]
          refine tk 14 rfl ?_
          try simp only [zp0, zp1, zp2, zp3, zp4]
          refine tk 15 rfl ?_
          try simp only [zp0, zp1, zp2, zp3, zp4]
          refine Reg.one_op (i := 18) rfl (by kernel_rfl) (fun K hK => ?_)
          obtain ⟨f0, f1, f2⟩ := Bag.cs3 S9.out 1 rfl
          obtain ⟨z0, z1, z2⟩ := Bag.fs3 S9.out 1 rfl
          go_simp
          clear f0 f1 f2 z0 z1 z2
          have S10 := Lib.hid (show Sl.Sep w _ [_, L4.boxR g1 110 #[.int .i64 KA.kind, .int .i64 KA.n, .string KA.text], L4.boxR g2 110 #[.int .i64 0, .int .i64 0, .string ⟨#[]⟩]] from L5.put_box5 (L5.put_box5 (L5.put_box5 (S9.out) 1 rfl 0 (.int .i64 KA.kind)) 1 rfl 1 (.int .i64 KA.n)) 1 rfl 2 (.string KA.text))
          clear S9
          refine hK.out _ _ ⟨Bag.cs4 S10.out 0 rfl, HKu.out _ S10.out.old, HKx.out _ S10.out.old⟩ (fun hS => ?_)
          clear hK K
          try simp only [zp0, zp1, zp2, zp3, zp4]
          refine Reg.one_op (i := 19) rfl (by kernel_rfl) (fun K hK => ?_)
          obtain ⟨f0, f1, f2⟩ := Bag.cs3 S10.out 2 rfl
          obtain ⟨z0, z1, z2⟩ := Bag.fs3 S10.out 2 rfl
          go_simp
          clear f0 f1 f2 z0 z1 z2
          have S11 := Lib.hid (show Sl.Sep w _ [_, _, L4.boxR g2 110 #[.int .i64 KZ.kind, .int .i64 KZ.n, .string KZ.text]] from L5.put_box5 (L5.put_box5 (L5.put_box5 (S10.out) 2 rfl 0 (.int .i64 KZ.kind)) 2 rfl 1 (.int .i64 KZ.n)) 2 rfl 2 (.string KZ.text))
          clear S10
          refine hK.out _ _ ⟨Bag.cs4 S11.out 0 rfl, HKu.out _ S11.out.old, HKx.out _ S11.out.old⟩ (fun hS => ?_)
          clear hK K
          try simp only [zp0, zp1, zp2, zp3, zp4]
          refine tk 20 rfl ?_
          try simp only [zp0, zp1, zp2, zp3, zp4]
          refine wpAnyH_done (by kernel_rfl) ?_ _
          obtain ⟨f0, f1, f2, f3⟩ := Bag.cs4 S11.out 0 rfl
          obtain ⟨f4, f5, f6⟩ := Bag.cs3 S11.out 1 rfl
          obtain ⟨f7, f8, f9⟩ := Bag.cs3 S11.out 2 rfl
          obtain ⟨f10, f11⟩ := HKu.out _ S11.out.old
          obtain ⟨f12, f13, f14⟩ := HKx.out _ S11.out.old
          clear f0 f1 f2 f3 f4 f5 f6 f7 f8 f9 f10 f11 f12 f13 f14
          have S12 := Lib.hid (show Sl.Sep w _ [_] from Bag.take S11.out [0] (by rfl) (by decide))
          clear S11
          go_wp2_with fail
          go_meet
          case rel => exact ⟨rfl, S12.out⟩
         exact AllReadyH.nil
        refine Reg.cons_op (i := 17) rfl (fun K hK => ?_) ?_
        ·
         skip
         go_simp
         have S7 := Lib.hid (show Sl.Sep w _ [_, _] from L4.push_box S6.out 110 #[.int .i64 0, .int .i64 0, .string ⟨#[]⟩] w4.heap.size rfl)
         clear S6
         obtain ⟨g1, hg⟩ : ∃ g', g' = w4.heap.size := ⟨_, rfl⟩
         rw [← hg] at S7 ⊢
         clear hg
         generalize w4.alloc (.cells #[.int .i64 0, .int .i64 0, .string ⟨#[]⟩] 110) = w5 at S7 ⊢
         refine hK.out _ _ ⟨Bag.cs4 S7.out 0 rfl, HKu.out _ S7.out.old, HKx.out _ S7.out.old⟩ (fun hS => ?_)
         clear hK K
         try simp only [zp0, zp1, zp2, zp3, zp4]
         refine wpAnyH_ready (rs := [11, 16]) (by kernel_rfl) (by simp) ?_
         refine Reg.cons_op (i := 11) rfl (fun K hK => ?_) ?_
         ·
          skip
          go_simp
          go_at_call 64
          refine (HUF.out _ S7.out.old).mono ?_
          rintro e w6 ⟨rfl, hb⟩
          have S8 := Lib.hid (S7.out.keep hb)
          clear S7
          clear hb
          go_wp2_with fail
          refine hK.out _ _ ⟨Bag.cs4 S8.out 0 rfl, HKu.out _ S8.out.old, HKx.out _ S8.out.old⟩ (fun hS => ?_)
          clear hK K
          try simp only [zp0, zp1, zp2, zp3, zp4]
          refine tk 12 rfl ?_
          try simp only [zp0, zp1, zp2, zp3, zp4]
          refine tk 13 rfl ?_
          try simp only [zp0, zp1, zp2, zp3, zp4]
          refine tk 14 rfl ?_
          try simp only [zp0, zp1, zp2, zp3, zp4]
          refine tk 15 rfl ?_
          try simp only [zp0, zp1, zp2, zp3, zp4]
          refine Reg.one_op (i := 16) rfl (by kernel_rfl) (fun K hK => ?_)
          go_simp
          have S9 := Lib.hid (show Sl.Sep w _ [_, _, _] from L4.push_box S8.out 110 #[.int .i64 0, .int .i64 0, .string ⟨#[]⟩] w6.heap.size rfl)
          clear S8
          obtain ⟨g2, hg⟩ : ∃ g', g' = w6.heap.size := ⟨_, rfl⟩
          rw [← hg] at S9 ⊢
          clear hg
          generalize w6.alloc (.cells #[.int .i64 0, .int .i64 0, .string ⟨#[]⟩] 110) = w7 at S9 ⊢
          refine hK.out _ _ ⟨Bag.cs4 S9.out 0 rfl, HKu.out _ S9.out.old, HKx.out _ S9.out.old⟩ (fun hS => ?_)
          clear hK K
          try simp only [zp0, zp1, zp2, zp3, zp4]
          refine Reg.one_op (i := 18) rfl (by kernel_rfl) (fun K hK => ?_)
          obtain ⟨f0, f1, f2⟩ := Bag.cs3 S9.out 2 rfl
          obtain ⟨z0, z1, z2⟩ := Bag.fs3 S9.out 2 rfl
          go_simp
          clear f0 f1 f2 z0 z1 z2
          have S10 := Lib.hid (show Sl.Sep w _ [_, _, L4.boxR g2 110 #[.int .i64 KA.kind, .int .i64 KA.n, .string KA.text]] from L5.put_box5 (L5.put_box5 (L5.put_box5 (S9.out) 2 rfl 0 (.int .i64 KA.kind)) 2 rfl 1 (.int .i64 KA.n)) 2 rfl 2 (.string KA.text))
          clear S9
          refine hK.out _ _ ⟨Bag.cs4 S10.out 0 rfl, HKu.out _ S10.out.old, HKx.out _ S10.out.old⟩ (fun hS => ?_)
          clear hK K
          try simp only [zp0, zp1, zp2, zp3, zp4]
          refine Reg.one_op (i := 19) rfl (by kernel_rfl) (fun K hK => ?_)
          obtain ⟨f0, f1, f2⟩ := Bag.cs3 S10.out 1 rfl
          obtain ⟨z0, z1, z2⟩ := Bag.fs3 S10.out 1 rfl
          go_simp
          clear f0 f1 f2 z0 z1 z2
          have S11 := Lib.hid (show Sl.Sep w _ [_, L4.boxR g1 110 #[.int .i64 KZ.kind, .int .i64 KZ.n, .string KZ.text], _] from L5.put_box5 (L5.put_box5 (L5.put_box5 (S10.out) 1 rfl 0 (.int .i64 KZ.kind)) 1 rfl 1 (.int .i64 KZ.n)) 1 rfl 2 (.string KZ.text))
          clear S10
          refine hK.out _ _ ⟨Bag.cs4 S11.out 0 rfl, HKu.out _ S11.out.old, HKx.out _ S11.out.old⟩ (fun hS => ?_)
          clear hK K
          try simp only [zp0, zp1, zp2, zp3, zp4]
          refine tk 20 rfl ?_
          try simp only [zp0, zp1, zp2, zp3, zp4]
          refine wpAnyH_done (by kernel_rfl) ?_ _
          obtain ⟨f0, f1, f2, f3⟩ := Bag.cs4 S11.out 0 rfl
          obtain ⟨f4, f5, f6⟩ := Bag.cs3 S11.out 1 rfl
          obtain ⟨f7, f8, f9⟩ := Bag.cs3 S11.out 2 rfl
          obtain ⟨f10, f11⟩ := HKu.out _ S11.out.old
          obtain ⟨f12, f13, f14⟩ := HKx.out _ S11.out.old
          clear f0 f1 f2 f3 f4 f5 f6 f7 f8 f9 f10 f11 f12 f13 f14
          have S12 := Lib.hid (show Sl.Sep w _ [_] from Bag.take S11.out [0] (by rfl) (by decide))
          clear S11
          go_wp2_with fail
          go_meet
          case rel => exact ⟨rfl, S12.out⟩
         refine Reg.cons_op (i := 16) rfl (fun K hK => ?_) ?_
         ·
          skip
          go_simp
          have S8 := Lib.hid (show Sl.Sep w _ [_, _, _] from L4.push_box S7.out 110 #[.int .i64 0, .int .i64 0, .string ⟨#[]⟩] w5.heap.size rfl)
          clear S7
          obtain ⟨g2, hg⟩ : ∃ g', g' = w5.heap.size := ⟨_, rfl⟩
          rw [← hg] at S8 ⊢
          clear hg
          generalize w5.alloc (.cells #[.int .i64 0, .int .i64 0, .string ⟨#[]⟩] 110) = w6 at S8 ⊢
          refine hK.out _ _ ⟨Bag.cs4 S8.out 0 rfl, HKu.out _ S8.out.old, HKx.out _ S8.out.old⟩ (fun hS => ?_)
          clear hK K
          try simp only [zp0, zp1, zp2, zp3, zp4]
          refine Reg.one_op (i := 11) rfl (by kernel_rfl) (fun K hK => ?_)
          go_simp
          go_at_call 64
          refine (HUF.out _ S8.out.old).mono ?_
          rintro e w7 ⟨rfl, hb⟩
          have S9 := Lib.hid (S8.out.keep hb)
          clear S8
          clear hb
          go_wp2_with fail
          refine hK.out _ _ ⟨Bag.cs4 S9.out 0 rfl, HKu.out _ S9.out.old, HKx.out _ S9.out.old⟩ (fun hS => ?_)
          clear hK K
          try simp only [zp0, zp1, zp2, zp3, zp4]
          refine tk 12 rfl ?_
          try simp only [zp0, zp1, zp2, zp3, zp4]
          refine tk 13 rfl ?_
          try simp only [zp0, zp1, zp2, zp3, zp4]
          refine tk 14 rfl ?_
          try simp only [zp0, zp1, zp2, zp3, zp4]
          refine tk 15 rfl ?_
          try simp only [zp0, zp1, zp2, zp3, zp4]
          refine Reg.one_op (i := 18) rfl (by kernel_rfl) (fun K hK => ?_)
          obtain ⟨f0, f1, f2⟩ := Bag.cs3 S9.out 2 rfl
          obtain ⟨z0, z1, z2⟩ := Bag.fs3 S9.out 2 rfl
          go_simp
          clear f0 f1 f2 z0 z1 z2
          have S10 := Lib.hid (show Sl.Sep w _ [_, _, L4.boxR g2 110 #[.int .i64 KA.kind, .int .i64 KA.n, .string KA.text]] from L5.put_box5 (L5.put_box5 (L5.put_box5 (S9.out) 2 rfl 0 (.int .i64 KA.kind)) 2 rfl 1 (.int .i64 KA.n)) 2 rfl 2 (.string KA.text))
          clear S9
          refine hK.out _ _ ⟨Bag.cs4 S10.out 0 rfl, HKu.out _ S10.out.old, HKx.out _ S10.out.old⟩ (fun hS => ?_)
          clear hK K
          try simp only [zp0, zp1, zp2, zp3, zp4]
          refine Reg.one_op (i := 19) rfl (by kernel_rfl) (fun K hK => ?_)
          obtain ⟨f0, f1, f2⟩ := Bag.cs3 S10.out 1 rfl
          obtain ⟨z0, z1, z2⟩ := Bag.fs3 S10.out 1 rfl
          go_simp
          clear f0 f1 f2 z0 z1 z2
          have S11 := Lib.hid (show Sl.Sep w _ [_, L4.boxR g1 110 #[.int .i64 KZ.kind, .int .i64 KZ.n, .string KZ.text], _] from L5.put_box5 (L5.put_box5 (L5.put_box5 (S10.out) 1 rfl 0 (.int .i64 KZ.kind)) 1 rfl 1 (.int .i64 KZ.n)) 1 rfl 2 (.string KZ.text))
          clear S10
          refine hK.out _ _ ⟨Bag.cs4 S11.out 0 rfl, HKu.out _ S11.out.old, HKx.out _ S11.out.old⟩ (fun hS => ?_)
          clear hK K
          try simp only [zp0, zp1, zp2, zp3, zp4]
          refine tk 20 rfl ?_
          try simp only [zp0, zp1, zp2, zp3, zp4]
          refine wpAnyH_done (by kernel_rfl) ?_ _
          obtain ⟨f0, f1, f2, f3⟩ := Bag.cs4 S11.out 0 rfl
          obtain ⟨f4, f5, f6⟩ := Bag.cs3 S11.out 1 rfl
          obtain ⟨f7, f8, f9⟩ := Bag.cs3 S11.out 2 rfl
          obtain ⟨f10, f11⟩ := HKu.out _ S11.out.old
          obtain ⟨f12, f13, f14⟩ := HKx.out _ S11.out.old
          clear f0 f1 f2 f3 f4 f5 f6 f7 f8 f9 f10 f11 f12 f13 f14
          have S12 := Lib.hid (show Sl.Sep w _ [_] from Bag.take S11.out [0] (by rfl) (by decide))
          clear S11
          go_wp2_with fail
          go_meet
          case rel => exact ⟨rfl, S12.out⟩
         exact AllReadyH.nil
        exact AllReadyH.nil
       case rest =>
        obtain ⟨rfl, hq⟩ := hcut
        obtain ⟨ww, hww, hSS⟩ : ∃ u, u = _ ∧ Sl.Sep w u [L4.boxR w.heap.size 33 #[.string name, .int .i64 ver, .slice (some sad) k sc, .slice (some uad) M uc]] := ⟨_, rfl, hq.out⟩
        subst hww
        have S55 := Lib.hid hSS
        clear hSS hq S5
        have S56 := Lib.hid (show Sl.Sep w _ [L4.boxR w.heap.size 33 #[.string name, .int .i64 ver, .slice (some sad) k sc, .slice (some uad) M uc]] from Bag.take S55.out [0] (by rfl) (by decide))
        clear S55
        have S57 := Lib.hid (show Sl.Sep w _ [_] from Bag.take S56.out [0] (by rfl) (by decide))
        clear S56
        obtain ⟨f0, f1, f2, f3⟩ := Bag.cs4 S57.out 0 rfl
        obtain ⟨f4, f5⟩ := HKu.out _ S57.out.old
        obtain ⟨f6, f7, f8⟩ := HKx.out _ S57.out.old
        cases bu with
        | true =>
         have HNO := Lib.hid (show B = false from by rw [← HB.out]; unfold isD; dsimp only; rw [HS1.out, allTo_no j hjl (by rw [okUx_at HCu.out, HKP.out]; rfl)]; rfl)
         go_wp2_with fail
         go_ret
         exact ⟨by rw [HNO.out] <;> rfl, S57.out.old⟩
        | false =>
         go_wp2_with fail
         clear f0 f1 f2 f3 f4 f5 f6 f7 f8
         go_loopw [9] (fun i wr => ∃ g : Nat, g ≤ j ∧ i = .int .i64 g ∧ Hid ((∀ q (hq : q < us.length), q < g → eqX us[q] u = false) ∧ Sl.Sep w wr [L4.boxR w.heap.size 33 #[.string name, .int .i64 ver, .slice (some sad) k sc, .slice (some uad) M uc]])) (fun i _ => j - (intOf i).toNat)
         case atStart => exact ⟨0, Nat.zero_le _, rfl, And.intro (fun j hj h => absurd h (by omega)) S57.out⟩
         case round =>
          obtain ⟨g, hg, rfl, hrel⟩ := hrel
          have HG := Lib.hid hrel.out.1
          have S58 := Lib.hid hrel.out.2
          clear hrel S57
          by_cases hlt3 : (g : Int) < (j : Int)
          ·
           skip
           have hgl : g < us.length := by omega
           have hgM : (g : Int) < (M : Int) := by omega
           obtain ⟨v, hv⟩ : ∃ x, us[g]? = some x := ⟨_, List.getElem?_eq_getElem hgl⟩
           have HKv := Lib.hid (fun w' (h : Below w.heap.size w w') => el2 cl_IndexDef_len (HU.out _ h) hv rfl)
           have HFv := Lib.hid (HFD.out.unique _ (List.mem_of_getElem? hv))
           have HCv := Lib.hid hv
           clear hv
           obtain ⟨be, hbe⟩ : ∃ b, eqX v u = b := ⟨_, rfl⟩
           have HE := fun w => index_eq v u w
           rw [hbe] at HE
           have HBE := Lib.hid (show eqX us[g] u = be from by rw [(List.getElem?_eq_some_iff.1 HCv.out).2]; exact hbe)
           clear hbe
           cases be with
           | true =>
            obtain ⟨f0, f1, f2, f3⟩ := Bag.cs4 S58.out 0 rfl
            obtain ⟨f4, f5⟩ := HKu.out _ S58.out.old
            obtain ⟨f6, f7, f8⟩ := HKx.out _ S58.out.old
            obtain ⟨f9, f10⟩ := HKv.out _ S58.out.old
            go_upto_region 18 with fail
            clear f0 f1 f2 f3 f4 f5 f6 f7 f8 f9 f10
            refine wp_region_held_drew (S := (fun w' => (w'.cell? ⟨w.heap.size, 0, none⟩ = some (.string name) ∧ w'.cell? ⟨w.heap.size, 1, none⟩ = some (.int .i64 ver) ∧ w'.cell? ⟨w.heap.size, 2, none⟩ = some (.slice (some sad) k sc) ∧ w'.cell? ⟨w.heap.size, 3, none⟩ = some (.slice (some uad) M uc)) ∧ (w'.cell? (uad.add (j * 2)) = some (.string u.f_Store) ∧ w'.cell? (⟨(uad.add (j * 2)).block, (uad.add (j * 2)).off + 1, none⟩) = some (.string u.f_Field)) ∧ (w'.cell? (sad.add (i * 3)) = some (.string x.name) ∧ w'.cell? (⟨(sad.add (i * 3)).block, (sad.add (i * 3)).off + 1, none⟩) = some (.slice x.a x.xs.length x.c) ∧ w'.cell? (⟨(sad.add (i * 3)).block, (sad.add (i * 3)).off + 2, none⟩) = some (.int .i64 x.auto)) ∧ (w'.cell? (uad.add (g * 2)) = some (.string v.f_Store) ∧ w'.cell? (⟨(uad.add (g * 2)).block, (uad.add (g * 2)).off + 1, none⟩) = some (.string v.f_Field)))) (by kernel_rfl) ⟨Bag.cs4 (Bag.drew1 S58.out) 0 rfl, HKu.out _ (Bag.drew1 S58.out).old, HKx.out _ (Bag.drew1 S58.out).old, HKv.out _ (Bag.drew1 S58.out).old⟩ (fun hS => ?_)
            have S59 := Lib.hid (Bag.drew1 S58.out)
            clear S58
            generalize World.drew _ = w4 at hS S59 ⊢
            refine tk 0 rfl ?_
            try simp only [zp0, zp1, zp2, zp3, zp4]
            refine tk 1 rfl ?_
            try simp only [zp0, zp1, zp2, zp3, zp4]
            refine tk 2 rfl ?_
            try simp only [zp0, zp1, zp2, zp3, zp4]
            refine tk 3 rfl ?_
            try simp only [zp0, zp1, zp2, zp3, zp4]
            refine tk 4 rfl ?_
            try simp only [zp0, zp1, zp2, zp3, zp4]
            refine tk 5 rfl ?_
            try simp only [zp0, zp1, zp2, zp3, zp4]
            refine tk 6 rfl ?_
            try simp only [zp0, zp1, zp2, zp3, zp4]
            refine tk 7 rfl ?_
            try simp only [zp0, zp1, zp2, zp3, zp4]
            refine tk 8 rfl ?_
            try simp only [zp0, zp1, zp2, zp3, zp4]
            refine tk 9 rfl ?_
            try simp only [zp0, zp1, zp2, zp3, zp4]
            refine tk 10 rfl ?_
            try simp only [zp0, zp1, zp2, zp3, zp4]
            refine wpAnyH_done (by kernel_rfl) ?_ _
            obtain ⟨f0, f1, f2, f3⟩ := Bag.cs4 S59.out 0 rfl
            obtain ⟨f4, f5⟩ := HKu.out _ S59.out.old
            obtain ⟨f6, f7, f8⟩ := HKx.out _ S59.out.old
            obtain ⟨f9, f10⟩ := HKv.out _ S59.out.old
            have HNO := Lib.hid (show B = false from by rw [← HB.out]; unfold isD; dsimp only; rw [HS1.out, allTo_no j hjl (by rw [okUx_at HCu.out, HKP.out, fresh_no g hgl (by omega) HBE.out]; rfl)]; rfl)
            go_wp2_with fail
            go_ret
            exact ⟨by rw [HNO.out] <;> rfl, S59.out.old⟩
           | false =>
            obtain ⟨f0, f1, f2, f3⟩ := Bag.cs4 S58.out 0 rfl
            obtain ⟨f4, f5⟩ := HKu.out _ S58.out.old
            obtain ⟨f6, f7, f8⟩ := HKx.out _ S58.out.old
            obtain ⟨f9, f10⟩ := HKv.out _ S58.out.old
            go_upto_region 18 with fail
            clear f0 f1 f2 f3 f4 f5 f6 f7 f8 f9 f10
            refine wp_region_held_drew (S := (fun w' => (w'.cell? ⟨w.heap.size, 0, none⟩ = some (.string name) ∧ w'.cell? ⟨w.heap.size, 1, none⟩ = some (.int .i64 ver) ∧ w'.cell? ⟨w.heap.size, 2, none⟩ = some (.slice (some sad) k sc) ∧ w'.cell? ⟨w.heap.size, 3, none⟩ = some (.slice (some uad) M uc)) ∧ (w'.cell? (uad.add (j * 2)) = some (.string u.f_Store) ∧ w'.cell? (⟨(uad.add (j * 2)).block, (uad.add (j * 2)).off + 1, none⟩) = some (.string u.f_Field)) ∧ (w'.cell? (sad.add (i * 3)) = some (.string x.name) ∧ w'.cell? (⟨(sad.add (i * 3)).block, (sad.add (i * 3)).off + 1, none⟩) = some (.slice x.a x.xs.length x.c) ∧ w'.cell? (⟨(sad.add (i * 3)).block, (sad.add (i * 3)).off + 2, none⟩) = some (.int .i64 x.auto)) ∧ (w'.cell? (uad.add (g * 2)) = some (.string v.f_Store) ∧ w'.cell? (⟨(uad.add (g * 2)).block, (uad.add (g * 2)).off + 1, none⟩) = some (.string v.f_Field)))) (by kernel_rfl) ⟨Bag.cs4 (Bag.drew1 S58.out) 0 rfl, HKu.out _ (Bag.drew1 S58.out).old, HKx.out _ (Bag.drew1 S58.out).old, HKv.out _ (Bag.drew1 S58.out).old⟩ (fun hS => ?_)
            have S59 := Lib.hid (Bag.drew1 S58.out)
            clear S58
            generalize World.drew _ = w4 at hS S59 ⊢
            refine tk 0 rfl ?_
            try simp only [zp0, zp1, zp2, zp3, zp4]
            refine tk 1 rfl ?_
            try simp only [zp0, zp1, zp2, zp3, zp4]
            refine tk 2 rfl ?_
            try simp only [zp0, zp1, zp2, zp3, zp4]
            refine tk 3 rfl ?_
            try simp only [zp0, zp1, zp2, zp3, zp4]
            refine tk 4 rfl ?_
            try simp only [zp0, zp1, zp2, zp3, zp4]
            refine tk 5 rfl ?_
            try simp only [zp0, zp1, zp2, zp3, zp4]
            refine tk 6 rfl ?_
            try simp only [zp0, zp1, zp2, zp3, zp4]
            refine tk 7 rfl ?_
            try simp only [zp0, zp1, zp2, zp3, zp4]
            refine tk 8 rfl ?_
            try simp only [zp0, zp1, zp2, zp3, zp4]
            refine tk 9 rfl ?_
            try simp only [zp0, zp1, zp2, zp3, zp4]
            refine tk 10 rfl ?_
            try simp only [zp0, zp1, zp2, zp3, zp4]
            refine wpAnyH_done (by kernel_rfl) ?_ _
            obtain ⟨f0, f1, f2, f3⟩ := Bag.cs4 S59.out 0 rfl
            obtain ⟨f4, f5⟩ := HKu.out _ S59.out.old
            obtain ⟨f6, f7, f8⟩ := HKx.out _ S59.out.old
            obtain ⟨f9, f10⟩ := HKv.out _ S59.out.old
            go_wp2_with fail
            go_roundw
            case rel => exact ⟨g + 1, by omega, by go_num, And.intro (fun q hq h => by
             by_cases e : q < g
             ·
              exact HG.out q hq e
             ·
              obtain rfl : q = g := by omega
              exact HBE.out) S59.out⟩
            case measure => simp [intOf]; omega
          ·
           skip
           obtain rfl : g = j := by omega
           obtain ⟨f0, f1, f2, f3⟩ := Bag.cs4 S58.out 0 rfl
           obtain ⟨f4, f5⟩ := HKu.out _ S58.out.old
           obtain ⟨f6, f7, f8⟩ := HKx.out _ S58.out.old
           go_wp2_with fail
           go_roundw
           case rel => exact ⟨g + 1, by omega, by go_num, And.intro (fun q h => by
            by_cases e : q < g
            ·
             exact HA.out q e
            ·
             obtain rfl : q = g := by omega
             rw [okUx_at HCu.out, HKP.out, fresh_all HG.out]; rfl) S58.out⟩
           case measure => simp [intOf]; omega
    ·
     skip
     obtain rfl : j = M := by omega
     have HS2 := Lib.hid (show allTo (okUx (coS_Store ss) us) us.length = true from allTo_all (fun i hi => HA.out i (by have := HM.out; omega)))
     obtain ⟨bn, hbn⟩ : ∃ b, isN name.data.toList = b := ⟨_, rfl⟩
     have HIN := fun w => L5.specIsName_any name HFD.out.name w
     rw [hbn] at HIN
     replace HIN := Lib.hid HIN
     obtain ⟨ba, hba⟩ : ∃ b, L1.inB ver 0 1000 = b := ⟨_, rfl⟩
     have HIA := fun w => L1.l1In_any ver 0 1000 w
     rw [hba] at HIA
     replace HIA := Lib.hid HIA
     have HE := Lib.hid (show B = (bn && (ba && (decide (k ≤ 4) && decide (j ≤ 4)))) from by rw [← HB.out]; unfold isD; dsimp only; rw [HS1.out, HS2.out, hbn, hba, HSL.out, ← HM.out]; rfl)
     clear hbn hba
     obtain ⟨f0, f1, f2, f3⟩ := Bag.cs4 S3.out 0 rfl
     cases bn with
     | false =>
      go_wp2_with fail
      go_at_call 63
      refine (HIN.out _).mono ?_
      rintro e w1 ⟨rfl, rfl⟩
      go_wp2_with fail
      go_ret
      exact ⟨by rw [HE.out] <;> rfl, S3.out.old⟩
     | true =>
      go_wp2_with fail
      go_at_call 63
      refine (HIN.out _).mono ?_
      rintro e w1 ⟨rfl, rfl⟩
      cases ba with
      | false =>
       go_wp2_with fail
       go_at_call 65
       refine (HIA.out _).mono ?_
       rintro e w2 ⟨rfl, rfl⟩
       go_wp2_with fail
       go_ret
       exact ⟨by rw [HE.out] <;> rfl, S3.out.old⟩
      | true =>
       go_wp2_with fail
       go_at_call 65
       refine (HIA.out _).mono ?_
       rintro e w2 ⟨rfl, rfl⟩
       by_cases h4 : (k : Int) ≤ 4
       ·
        have h4' : k ≤ 4 := by omega
        go_wp2_with fail
        go_ret
        exact ⟨by rw [HE.out, decide_eq_true h4', show decide (j ≤ 4) = decide ((j : Int) ≤ 4) from by simp only [decide_eq_decide]; omega] <;> rfl, S3.out.old⟩
       ·
        have h4' : ¬ k ≤ 4 := by omega
        go_wp2_with fail
        go_ret
        exact ⟨by rw [HE.out, decide_eq_false h4'] <;> rfl, S3.out.old⟩
end Go.Proofs.YthljdhfgphebnaaGreat.L8

namespace Go.Proofs.YthljdhfgphebnaaGreat.V
open Go.ChangeShapes Go.WideShapes Go.ChangeAt Go.RowKit Mem Sl Sv Bag

section
variable {α : Type} {cl : α → List Value} {m : Nat} {w : World} {B k g : Nat} {xs : List α}
theorem reads_pre {a : Option Addr} {vs us : List Value} (h : Reads w B a (vs ++ us)) : Reads w B a vs := fun j hj => by
 obtain ⟨ad, e, hb, hc⟩ := h j (by rw [List.length_append]; omega)
 exact ⟨ad, e, hb, by rw [hc, List.getElem_append_left hj]⟩
theorem reads_take {a : Option Addr} (h : Reads w B a (xs.flatMap cl)) (k : Nat) : Reads w B a ((xs.take k).flatMap cl) := by
 have e : xs.flatMap cl = (xs.take k).flatMap cl ++ (xs.drop k).flatMap cl := by rw [← List.flatMap_append, List.take_append_drop]
 rw [e] at h
 exact reads_pre h
theorem reads_drop (hm : ∀ x, (cl x).length = m) (h : Reads w B (some ⟨g, 0, none⟩) (xs.flatMap cl)) (hk : k ≤ xs.length) : Reads w B (some ⟨g, k * m, none⟩) ((xs.drop k).flatMap cl) := by
 have e : xs.flatMap cl = (xs.take k).flatMap cl ++ (xs.drop k).flatMap cl := by rw [← List.flatMap_append, List.take_append_drop]
 rw [e] at h
 have h2 := Run.reads_app h
 rwa [flat_len hm, List.length_take, Nat.min_eq_left hk, Nat.zero_add] at h2
theorem take_len (hk : k ≤ xs.length) : (xs.take k).length = k := by rw [List.length_take, Nat.min_eq_left hk]
theorem takeM (hm : ∀ x, (cl x).length = m) (hk : k ≤ xs.length) : ((xs.take k).flatMap cl).length = k * m := by rw [flat_len hm, take_len hk]
theorem dropM (hm : ∀ x, (cl x).length = m) : ((xs.drop k).flatMap cl).length = (xs.length - k) * m := by rw [flat_len hm, List.length_drop]
end
def ixV {α : Type} (f : α → Bool) (xs : List α) : Int := match xs.findIdx? f with
 | some i => i
 | none => -1
theorem ixV_at {α : Type} {f : α → Bool} {xs : List α} (i : Nat) (x : α) (hx : xs[i]? = some x) (h : f x = true) (ha : ∀ (j : Nat) (y : α), xs[j]? = some y → j < i → f y = false) : ixV f xs = i := by
 obtain ⟨hi, rfl⟩ := List.getElem?_eq_some_iff.1 hx
 unfold ixV
 rw [show xs.findIdx? f = some i from by
  rw [List.findIdx?_eq_some_iff_getElem]
  exact ⟨hi, h, fun j hj => by rw [ha j _ (List.getElem?_eq_getElem (by omega)) hj]; simp⟩]
theorem ixV_none {α : Type} {f : α → Bool} {xs : List α} (ha : ∀ (j : Nat) (y : α), xs[j]? = some y → f y = false) : ixV f xs = -1 := by
 unfold ixV
 rw [show xs.findIdx? f = none from by
  rw [List.findIdx?_eq_none_iff]
  intro x hx
  obtain ⟨j, hj, rfl⟩ := List.getElem_of_mem hx
  exact ha j _ (List.getElem?_eq_getElem hj)]
theorem ixV_cases {α : Type} (f : α → Bool) (xs : List α) : (ixV f xs = -1 ∧ ∀ (j : Nat) (y : α), xs[j]? = some y → f y = false) ∨ ∃ (i : Nat) (x : α), ixV f xs = i ∧ xs[i]? = some x ∧ f x = true ∧ ∀ (j : Nat) (y : α), xs[j]? = some y → j < i → f y = false := by
 unfold ixV
 cases h : xs.findIdx? f with
 | none =>
  rw [List.findIdx?_eq_none_iff] at h
  exact .inl ⟨rfl, fun j y hy => by simpa using h _ (List.mem_of_getElem? hy)⟩
 | some i =>
  rw [List.findIdx?_eq_some_iff_getElem] at h
  obtain ⟨hi, h1, h2⟩ := h
  exact .inr ⟨i, _, rfl, List.getElem?_eq_getElem hi, h1, fun j y hy hj => by
   obtain ⟨hjl, rfl⟩ := List.getElem?_eq_some_iff.1 hy
   simpa using h2 j hj⟩
def stays {α : Type} (f : α → Bool) (ys : List α) : List α := ys.filter fun x => !f x
theorem stays_take {α : Type} {f : α → Bool} {ys : List α} {j : Nat} {x : α} (h : ys[j]? = some x) : stays f (ys.take (j + 1)) = stays f (ys.take j) ++ (if f x then [] else [x]) := by
 unfold stays
 rw [take_next h, List.filter_append]
 congr 1
 by_cases h1 : f x = true
 ·
  simp [h1]
 ·
  simp [h1]
theorem stays_all {α : Type} {f : α → Bool} {ys : List α} (h : ∀ (j : Nat) (y : α), ys[j]? = some y → f y = false) : stays f ys = ys := by
 unfold stays
 rw [List.filter_eq_self]
 intro x hx
 obtain ⟨j, hj, rfl⟩ := List.getElem_of_mem hx
 rw [h j _ (List.getElem?_eq_getElem hj)]
 rfl
theorem zeros_one {z : Value} (h : ∀ j, j < z.cells.size → (z.cells[j]!).oneCell' = true) (hp : 0 < z.cells.size) (n : Nat) : ∀ v ∈ (Builtin.zeroCells z.cells n).toList, v.oneCell' = true := by
 intro v hv
 simp only [Builtin.zeroCells, Array.toList_map, List.mem_map] at hv
 obtain ⟨j, _, rfl⟩ := hv
 exact h _ (Nat.mod_lt _ hp)
section
variable {P : Program} {W w : World} {rs : List Res} {e : TypeId} {k c n g : Nat} {xs : List Value}
theorem step_append_in (S : Sep W w rs) (j : Nat) (hj : rs[j]? = some (ownV e k (some ⟨g, 0, none⟩) c n xs)) {ops : Array Oper} {o : Oper} {act : Act} {K : Act → World → Prop} {Q : Exit → Act → World → Prop} {E : Prop} (hgd : o.guard = none) (d s : Operand) (t : TypeId)
  (ho : o.op = .call { callee := .builtin .append, args := #[d, s], argTypes := #[t, t] }) (i : TypeInfo) (hu : P.underlying t = some (.slice e)) (hi : P.info? e = some i) (hs : i.size = k)
  (q dc : Nat) (hd : act.eval d = .slice (some ⟨g, 0, none⟩) q dc) (A : Addr) (sl sc : Nat) (hx : act.eval s = .slice (some A) sl sc) (B : Nat) (cs : List Value) (hr : Reads w B (some A) cs) (hn : cs.length = sl * k) (hroom : q + sl ≤ dc) (hq : q * k + cs.length ≤ xs.length) (h1 : ∀ v ∈ cs, v.oneCell' = true)
  (h : ∀ w', Sep W w' (rs.set j (ownV e k (some ⟨g, 0, none⟩) c n (Run.over xs (q * k) cs))) → K (act.put o.dst (.slice (some ⟨g, 0, none⟩) (q + sl) dc)) w') : if Region.wanted o (yielded ops act.tmps) = true then Oper.wp P o act w K Q else E := by
 have hw : Region.wanted o (yielded ops act.tmps) = true := by simp [Region.wanted, hgd]
 rw [if_pos hw]
 have hrun := run_append_room_cells (P := P) w t o.type e i hu hi g 0 q dc A sl sc cs (by rw [hs]; exact hn) (fun p v hp => by
  obtain ⟨hpl, rfl⟩ := List.getElem?_eq_some_iff.1 hp
  obtain ⟨ad', h2, _, h3⟩ := hr p hpl
  injection h2 with h2
  subst h2
  exact h3) h1 hroom (fun p hp => by rw [hs, Nat.zero_add, (own_at S j hj).cell (q * k + p) (by omega)]; rfl) (fun p hp => by rw [hs, Nat.zero_add]; exact (own_at S j hj).free (q * k + p))
 rw [hs, Nat.zero_add] at hrun
 unfold Oper.wp execOp
 simp only [ho, resolve, invoke, builtin, Sem.run_bind, Sem.run_pure, Result.andThen_ok, List.map_toArray, List.map_cons, List.map_nil, hd, hx, hrun]
 exact h _ (Run.put_run S j hj (q * k) cs hq)
end
end Go.Proofs.YthljdhfgphebnaaGreat.V

namespace Go.Proofs.YthljdhfgphebnaaGreat.Reg
section
variable {P : Program} {l : List Oper} {Q : Exit → Act → World → Prop} {md : Region.Mode} {S0 S1 : World → Prop} {q fuel i : Nat} {oi : Oper} {v : Value} {listed : Array Bool} {a : Act} {w : World}
theorem after_op (hi : nthO i l = some oi) (hr : Region.ready md l.toArray listed = [i]) (hl : listed.getD q true = true)
  (h : ∀ K' : Act → World → Prop, Shut (∀ a w, S0 w → (S0 w → anyL P md l.toArray Q S0 S1 q fuel (listed.setIfInBounds i true) a w) → K' a w) → if Region.wanted oi (yielded l.toArray a.tmps) = true then Oper.wp P oi a w K' Q else K' (a.put oi.dst undef) w) :
  anyL P md l.toArray Q S0 S1 q (fuel + 1) listed a w := by
 refine ⟨fun h0 => (by rw [hr] at h0; cases h0), fun j hj => ?_⟩
 rw [hr] at hj
 obtain rfl := List.mem_singleton.1 hj
 exact wpOp_step (by rw [nthO_eq]; exact hi) (fun K' hK => h K' (fun a w h0 hW => hK a w ⟨⟨h0, fun _ hn => absurd (hl.symm.trans hn) (by decide)⟩, hW h0⟩))
end
end Go.Proofs.YthljdhfgphebnaaGreat.Reg

set_option linter.unusedSimpArgs false
namespace Go.Proofs.YthljdhfgphebnaaGreat.V
open Go.ChangeShapes Go.WideShapes Go.ChangeAt Go.RowKit Mem Sl Sv Bag
theorem infoL_Store : ∃ i, Tryz.prog.info? 70 = some i ∧ i.zero = some (.agg #[.string ⟨#[]⟩, .slice none 0 0, .int .i64 0]) ∧ i.size = 3 ∧ i.bytes = 48 := Ex.infoOf _ _ _ _ (by kernel_rfl)
def Tests_Store (Fn g : Nat) (f : L6.LS → Bool) (xs : List L6.LS) (w : World) : Prop :=
 ∀ x ∈ xs, ∀ w', Below w.heap.size w w' → Calls Tryz.prog Fn #[vv_Store x, .pointer (some ⟨g, 0, none⟩)] w' fun e w'' => e = .returned (.bool (f x)) ∧ Below w'.heap.size w' w''
def TestsC_Store (Fn g : Nat) (f : L6.LS → Bool) (xs : List L6.LS) (w : World) : Prop :=
 ∀ x ∈ xs, ∀ w', w.heap.size ≤ w'.heap.size → w'.heap[g]? = w.heap[g]? → Calls Tryz.prog Fn #[vv_Store x, .pointer (some ⟨g, 0, none⟩)] w' fun e w'' => e = .returned (.bool (f x)) ∧ Below w'.heap.size w' w''
theorem TestsC_Store.below {Fn g : Nat} {f : L6.LS → Bool} {xs : List L6.LS} {w : World} (h : TestsC_Store Fn g f xs w) (hg : g < w.heap.size) : Tests_Store Fn g f xs w := fun x hx w' hb => h x hx w' hb.size (hb.block g hg)
set_option maxHeartbeats 2000000 in
theorem indexFunc_Store (g : Nat) (f : L6.LS → Bool) (a : Option Addr) (c : Nat) (xs : List L6.LS) (hl : xs.length ≤ 1048576) (w : World) (hr : Reads w w.heap.size a ((xs).flatMap cl_Store)) (hp : Tests_Store 146 g f xs w) :
  Calls Tryz.prog 145 #[.slice a xs.length c, .func (.func 146) #[] #[.pointer (some ⟨g, 0, none⟩)]] w fun e w' => e = .returned (.int .i64 (ixV f xs)) ∧ Below w.heap.size w w' := by
 have HR := Lib.hid (fun w' (h : Below w.heap.size w w') => hr.below h)
 have HP := Lib.hid hp
 obtain ⟨N, hN⟩ : ∃ n, n = xs.length := ⟨_, rfl⟩
 rw [← hN] at hl ⊢
 have hl' : (N : Int) ≤ 1048576 := by omega
 have HN := Lib.hid hN
 clear hN hr hp
 have S1 := Lib.hid (show Sl.Sep w w [] from Sl.Sep.start w)
 go_enter Tryz.func145, Tryz.ntmps145
 go_wp2_with fail
 go_loopw [8] (fun i wr => ∃ k : Nat, k ≤ N ∧ i = .int .i64 k ∧ Hid ((∀ (j : Nat) (y : L6.LS), xs[j]? = some y → j < k → f y = false) ∧ Sl.Sep w wr [])) (fun i _ => N - (intOf i).toNat)
 case atStart => exact ⟨0, Nat.zero_le _, rfl, And.intro (fun j y hj h => absurd h (by omega)) S1.out⟩
 case round =>
  obtain ⟨k, hk, rfl, hrel⟩ := hrel
  have HA := Lib.hid hrel.out.1
  have S2 := Lib.hid hrel.out.2
  clear hrel S1
  by_cases hlt : (k : Int) < (N : Int)
  ·
   skip
   have hkl : k < xs.length := by have := HN.out; omega
   obtain ⟨x, hx⟩ : ∃ x, xs[k]? = some x := ⟨_, List.getElem?_eq_getElem hkl⟩
   obtain ⟨ad, e'⟩ := el_some cl_Store_len (by decide) (HR.out _ S2.out.old) hkl
   subst e'
   have HKx := Lib.hid (fun w' (h : Below w.heap.size w w') => el3 cl_Store_len (HR.out _ h) hx rfl)
   have HXx := Lib.hid hx
   clear hx
   have HPX := fun w' (h : Below w.heap.size w w') => HP.out x (List.mem_of_getElem? HXx.out) w' h
   dsimp only [vv_Store] at HPX
   obtain ⟨b, hb⟩ : ∃ b, f x = b := ⟨_, rfl⟩
   rw [hb] at HPX
   replace HPX := Lib.hid HPX
   have HB := Lib.hid hb
   clear hb
   obtain ⟨f0, f1, f2⟩ := HKx.out _ S2.out.old
   go_wp2_with fail
   go_at_call 146
   refine (HPX.out _ S2.out.old).mono ?_
   rintro e w3 ⟨rfl, hb⟩
   clear f0 f1 f2
   have S3 := Lib.hid (S2.out.keep hb)
   clear S2
   clear hb
   cases b with
   | true =>
    go_wp2_with fail
    go_ret
    exact ⟨by rw [ixV_at k _ HXx.out HB.out HA.out]; rfl, S3.out.old⟩
   | false =>
    go_wp2_with fail
    go_roundw
    case rel => exact ⟨k + 1, by omega, by go_num, And.intro (fun j y hj h => by
     by_cases e : j < k
     ·
      exact HA.out j y hj e
     ·
      obtain rfl : j = k := by omega
      rw [HXx.out] at hj; rw [← Option.some.inj hj]; exact HB.out) S3.out⟩
    case measure => simp [intOf]; omega
  ·
   skip
   go_wp2_with fail
   go_ret
   obtain rfl : k = N := by omega
   exact ⟨by rw [ixV_none (fun j y hj => HA.out j y hj (by have := HN.out; have := (List.getElem?_eq_some_iff.1 hj).1; omega))]; rfl, S2.out.old⟩
set_option maxHeartbeats 8000000 in
theorem insert_Store (g vb k : Nat) (ys : List L6.LS) (z : L6.LS) (hk : k ≤ ys.length) (hy : ys.length ≤ 1048576) (w : World) (hr : Reads w w.heap.size (some ⟨g, 0, none⟩) ((ys).flatMap cl_Store)) (hv : Reads w w.heap.size (some ⟨vb, 0, none⟩) (([z]).flatMap cl_Store)) :
  Calls Tryz.prog 109 #[.slice (some ⟨g, 0, none⟩) ys.length ys.length, .int .i64 k, .slice (some ⟨vb, 0, none⟩) 1 1] w fun e w' => ∃ a' c', e = .returned (.slice a' (ys.length + 1) c') ∧ OwnV w' w.heap.size 70 3 a' c' (ys.length + 1) ((ys.take k ++ z :: ys.drop k).flatMap cl_Store) ∧ Below w.heap.size w w' := by
 obtain ⟨i0, hi1, hi2, hi3, hi4⟩ := infoL_Store
 have HI := Lib.hid (And.intro hi1 (And.intro hi2 (And.intro hi3 hi4)))
 clear hi1 hi2 hi3 hi4
 have HR := Lib.hid (fun w' (h : Below w.heap.size w w') => hr.below h)
 have HV := Lib.hid (fun w' (h : Below w.heap.size w w') => hv.below h)
 obtain ⟨N, hN⟩ : ∃ n, n = ys.length := ⟨_, rfl⟩
 rw [← hN] at hy hk ⊢
 have hy' : (N : Int) ≤ 1048576 := by omega
 have hk' : (k : Int) ≤ (N : Int) := by omega
 have hcN := Lib.hid (show ((ys).flatMap cl_Store).length = N * 3 by rw [flat_len cl_Store_len, hN])
 have HN := Lib.hid hN
 clear hN hr hv
 have S1 := Lib.hid (show Sl.Sep w w [] from Sl.Sep.start w)
 by_cases hkN : k = N
 ·
  subst hkN
  go_enter Tryz.func109, Tryz.ntmps109
  go_wp2_with (at_builtin; refine Run.wpList_grow_s S1.out rfl _ _ 30 rfl 70 i0 (.agg #[.string ⟨#[]⟩, .slice none 0 0, .int .i64 0]) 3 48 Tryz.underlying30 HI.out.1 HI.out.2.1 HI.out.2.2.1 HI.out.2.2.2 rfl ⟨g, 0, none⟩ k k (by rfl) w.heap.size ((ys).flatMap cl_Store) (HR.out _ S1.out.old) hcN.out ⟨vb, 0, none⟩ 1 1 (by rfl) w.heap.size (([z]).flatMap cl_Store) (HV.out _ S1.out.old) (by rw [flat_len cl_Store_len]; rfl) (one_flat cl_Store_one _) (by omega) (by unfold maxLen; omega) (by omega) ?_; intro w1 C hC S')
  go_ret
  refine ⟨_, _, rfl, ?_, S'.old⟩
  have h := Sv.own_from S' 0 rfl
  rw [List.take_of_length_le (by have := HN.out; omega), List.drop_of_length_le (by have := HN.out; omega), List.flatMap_append]
  exact h
 ·
  skip
  have hklt : k < N := by omega
  have hkNi : (k : Int) < (N : Int) := by omega
  have hne : ¬ (k : Int) = (N : Int) := by omega
  have hne2 : ¬ N = k := by omega
  obtain ⟨d, hd⟩ : ∃ d : Nat, (N : Int) + 1 - (k : Int) = (d : Int) := ⟨N + 1 - k, by omega⟩
  have hdN : k + d = N + 1 := by omega
  have hgt : (N : Int) < (N : Int) + 1 := by omega
  have hwd : IntKind.i64.wrap (N : Int) = (N : Int) := IntWalk.i64_in _ ⟨by omega, by omega⟩
  have HKD := Lib.hid hdN
  have HKL := Lib.hid (show k ≤ ys.length by have := HN.out; omega)
  clear hdN hkN
  go_enter Tryz.func109, Tryz.ntmps109
  go_upto_region 10 with (at_builtin; refine Run.wpList_zeros_s S1.out rfl _ _ 30 3 rfl 70 i0 (.agg #[.string ⟨#[]⟩, .slice none 0 0, .int .i64 0]) 3 48 .i64 .i64 Tryz.underlying30 Tryz.underlying3 HI.out.1 HI.out.2.1 HI.out.2.2.1 HI.out.2.2.2 rfl (by omega) ⟨g, 0, none⟩ k N d (by rfl) (by rfl) w.heap.size ((ys.take k).flatMap cl_Store) (reads_take (HR.out _ S1.out.old) k) (takeM cl_Store_len HKL.out) (by omega) (by have := HKD.out; omega) (by have := HKD.out; unfold maxLen; omega) (by have := HKD.out; omega) ?_; intro w1 C hC S')
  obtain ⟨g2, hg2⟩ : ∃ g', g' = w.heap.size := ⟨_, rfl⟩
  rw [← hg2] at S' ⊢
  clear hg2
  obtain ⟨Zs, hZs⟩ : ∃ Z, Z = (Builtin.zeroCells (Value.agg #[.string ⟨#[]⟩, .slice none 0 0, .int .i64 0]).cells d).toList := ⟨_, rfl⟩
  rw [← hZs] at S'
  have HZ := Lib.hid (show Zs.length = d * 3 by rw [hZs, Array.length_toList, size_zeroCells]; rfl)
  clear hZs
  have HA := Lib.hid (show ((ys.take k).flatMap cl_Store).length = k * 3 from takeM cl_Store_len HKL.out)
  have HO1 := Lib.hid (show (([z]).flatMap cl_Store).length = 3 by rw [flat_len cl_Store_len]; simp)
  have HL := Lib.hid (show k * 3 + 3 ≤ ((ys.take k).flatMap cl_Store ++ Zs).length ∧ 3 ≤ Zs.length from by rw [List.length_append, HA.out, HZ.out]; have := HKD.out; omega)
  have hCk : ¬ C = k := by have := HKD.out; omega
  have hCk1 : ¬ C = k + 1 := by have := HKD.out; omega
  have hkC : (k : Int) ≤ (C : Int) := by omega
  have hk1C : (k : Int) + 1 ≤ (C : Int) := by omega
  have hk10 : (0 : Int) ≤ (k : Int) + 1 := by omega
  have hw2 : IntKind.i64.wrap ((k : Int) + 1) = (k : Int) + 1 := IntWalk.i64_in _ ⟨by omega, by omega⟩
  have ht1 : ((k : Int) + 1).toNat = k + 1 := by omega
  have hd1 : (1 : Int) ≤ (d : Int) := by have := HKD.out; omega
  have hC63 : C ≤ 9223372036854775807 := by
   rcases (Sv.own_at S' 0 rfl).form with ⟨e, _⟩ | ⟨g, _, _, _, _, h⟩
   ·
    cases e
   ·
    unfold maxLen at h; omega
  have S2 := Lib.hid (show Sl.Sep w _ [Sv.ownV 70 3 (some ⟨g2, 0, none⟩) C (k + d) ((ys.take k).flatMap cl_Store ++ Zs)] from S')
  clear S1
  clear S' hC
  have HM1 := Lib.hid (show (([z]).flatMap cl_Store).length = Nat.min 1 d * 3 from by rw [HO1.out, show Nat.min 1 d = 1 from Nat.min_eq_left (by omega)])
  have hcp := fun ty => Run.run_copy_s (P := Tryz.prog) S2.out 0 rfl 30 30 ty i0 Tryz.underlying30 HI.out.1 HI.out.2.2.1 (k * 3) d (C - k) 1 1 (some ⟨vb, 0, none⟩) (([z]).flatMap cl_Store) HM1.out w.heap.size (HV.out _ S2.out.old) (by rw [HO1.out]; exact HL.out.1) (one_flat cl_Store_one _)
  obtain ⟨w2, hw⟩ : ∃ u, u = World.setCells w1 g2 (k * 3) (([z]).flatMap cl_Store) := ⟨_, rfl⟩
  rw [← hw] at hcp
  have HW := Lib.hid hw
  clear hw
  go_upto_region 11 with fail
  have S3 := Lib.hid (show Sl.Sep w _ [Sv.ownV 70 3 (some ⟨g2, 0, none⟩) C (k + d) ((ys.take k ++ [z]).flatMap cl_Store ++ Zs.drop 3)] from (by have h := Run.put_run S2.out 0 rfl (k * 3) (([z]).flatMap cl_Store) (by rw [HO1.out]; exact HL.out.1); rw [← HW.out, Run.over_at _ _ _ _ HA.out (by rw [HO1.out]; exact HL.out.2), ← List.append_assoc, ← List.flatMap_append, HO1.out] at h; exact h))
  clear S2
  clear hcp HW
  have HD := Lib.hid (show ((ys.drop k).flatMap cl_Store).length = (N - k) * 3 by rw [dropM cl_Store_len, ← HN.out])
  have HM2 := Lib.hid (show ((ys.drop k).flatMap cl_Store).length = Nat.min (N - k) (k + d - (k + 1)) * 3 from by rw [HD.out, show k + d - (k + 1) = N - k from by have := HKD.out; omega, show Nat.min (N - k) (N - k) = N - k from Nat.min_self _])
  have HA2 := Lib.hid (show ((ys.take k ++ [z]).flatMap cl_Store).length = (k + 1) * 3 by rw [flat_len cl_Store_len, List.length_append, take_len HKL.out]; rfl)
  have HZ2 := Lib.hid (show (Zs.drop 3).length = ((ys.drop k).flatMap cl_Store).length by rw [List.length_drop, HZ.out, HD.out]; have := HKD.out; omega)
  have HQ2 := Lib.hid (show (k + 1) * 3 + ((ys.drop k).flatMap cl_Store).length ≤ ((ys.take k ++ [z]).flatMap cl_Store ++ Zs.drop 3).length from by rw [List.length_append, HA2.out, HZ2.out]; exact Nat.le_refl _)
  refine wp_region_held_drew (S := (fun w' => True)) (by kernel_rfl) trivial (fun hS => ?_)
  have S4 := Lib.hid (Bag.drew1 S3.out)
  clear S3
  generalize World.drew _ = w3 at hS S4 ⊢
  refine tk 0 rfl ?_
  try simp only [zp0, zp1, zp2, zp3, zp4]
  refine tk 1 rfl ?_
  try simp only [zp0, zp1, zp2, zp3, zp4]
  refine tk 2 rfl ?_
  try simp only [zp0, zp1, zp2, zp3, zp4]
  refine tk 3 rfl ?_
  try simp only [zp0, zp1, zp2, zp3, zp4]
  refine tk 4 rfl ?_
  try simp only [zp0, zp1, zp2, zp3, zp4]
  refine tk 5 rfl ?_
  try simp only [zp0, zp1, zp2, zp3, zp4]
  refine tk 6 rfl ?_
  try simp only [zp0, zp1, zp2, zp3, zp4]
  refine tk 7 rfl ?_
  try simp only [zp0, zp1, zp2, zp3, zp4]
  refine Reg.one_op (i := 8) rfl (by kernel_rfl) (fun K hK => ?_)
  refine Run.step_copy_s S4.out 0 rfl rfl _ _ 30 30 rfl i0 Tryz.underlying30 HI.out.1 HI.out.2.2.1 ((k + 1) * 3) (k + d - (k + 1)) (C - (k + 1)) (by rfl) (some ⟨g, k * 3, none⟩) (N - k) (N - k) (by rfl) w.heap.size ((ys.drop k).flatMap cl_Store) (reads_drop cl_Store_len (HR.out _ S4.out.old) HKL.out) HM2.out HQ2.out (one_flat cl_Store_one _) ?_
  intro w4 S'
  have S5 := Lib.hid (show Sl.Sep w _ [Sv.ownV 70 3 (some ⟨g2, 0, none⟩) C (k + d) ((ys.take k ++ z :: ys.drop k).flatMap cl_Store)] from (by have h := S'; rw [Run.over_at _ _ _ _ HA2.out (Nat.le_of_eq HZ2.out.symm), List.drop_of_length_le (Nat.le_of_eq HZ2.out), List.append_nil, ← List.flatMap_append, List.append_assoc] at h; exact h))
  clear S4
  clear S'
  refine hK.out _ _ trivial (fun hS => ?_)
  clear hK K
  try simp only [zp0, zp1, zp2, zp3, zp4]
  refine wpAnyH_done (by kernel_rfl) ?_ _
  go_wp2_with fail
  go_ret
  refine ⟨some ⟨g2, 0, none⟩, C, ?_, ?_, S5.out.old⟩
  ·
   show Ending.returned (.slice (some ⟨g2, 0, none⟩) (k + d) C) = _
   rw [HKD.out]
  ·
   have h := Sv.own_from S5.out 0 rfl
   rw [HKD.out] at h
   exact h
set_option maxHeartbeats 8000000 in
theorem delete_Store_sep (g c i : Nat) (ys : List L6.LS) (hi : i < ys.length) (hl : ys.length ≤ 1048576) (W w : World) (S : Sl.Sep W w [Sv.ownV 70 3 (some ⟨g, 0, none⟩) c ys.length ((ys).flatMap cl_Store), Run.restR W w g]) :
  Calls Tryz.prog 111 #[.slice (some ⟨g, 0, none⟩) ys.length c, .int .i64 i, .int .i64 ((i : Int) + 1)] w fun e w' => e = .returned (.slice (some ⟨g, 0, none⟩) (ys.length - 1) c) ∧ Sl.Sep W w' [Sv.ownV 70 3 (some ⟨g, 0, none⟩) c (ys.length - 1) ((ys.eraseIdx i).flatMap cl_Store), Run.restR W w g] := by
 obtain ⟨i0, hi1, hi2, hi3, hi4⟩ := infoL_Store
 have HI := Lib.hid (And.intro hi1 (And.intro hi2 (And.intro hi3 hi4)))
 clear hi1 hi2 hi3 hi4
 obtain ⟨N, hN⟩ : ∃ n, n = ys.length := ⟨_, rfl⟩
 rw [← hN] at S hl hi ⊢
 have hl' : (N : Int) ≤ 1048576 := by omega
 have HN := Lib.hid hN
 have hcap := (Sv.own_at S 0 rfl).cap
 have hc63 : c ≤ 9223372036854775807 := by
  rcases (Sv.own_at S 0 rfl).form with ⟨e, _⟩ | ⟨g, _, _, _, _, h⟩
  ·
   cases e
  ·
   unfold maxLen at h; omega
 have S1 := Lib.hid S
 clear hN S
 have h0 : ¬ (i : Int) = (i : Int) + 1 := by omega
 have h1 : (i : Int) ≤ (i : Int) + 1 := by omega
 have h2 : (i : Int) + 1 ≤ (N : Int) := by omega
 have h3 : (N : Int) ≤ (c : Int) := by omega
 have h4 : (i : Int) ≤ (N : Int) := by omega
 have h5 : (0 : Int) ≤ (i : Int) + 1 := by omega
 have h6 : ((i : Int) + 1).toNat = i + 1 := by omega
 have h7 : (i : Int) ≤ (c : Int) := by omega
 have h8 : (i : Int) + 1 ≤ (c : Int) := by omega
 have HIL := Lib.hid (show i + 1 ≤ ys.length by have := HN.out; omega)
 have HD := Lib.hid (show ((ys.drop (i + 1)).flatMap cl_Store).length = (N - (i + 1)) * 3 by rw [dropM cl_Store_len, ← HN.out])
 have HTK := Lib.hid (show ((ys.take i).flatMap cl_Store).length = i * 3 from takeM cl_Store_len (by have := HIL.out; omega))
 have HYL := Lib.hid (show ((ys).flatMap cl_Store).length = N * 3 by rw [flat_len cl_Store_len, HN.out])
 obtain ⟨x, hx⟩ : ∃ x, ys[i]? = some x := ⟨_, List.getElem?_eq_getElem (by have := HIL.out; omega)⟩
 have HX := Lib.hid (show (ys).flatMap cl_Store = (ys.take i).flatMap cl_Store ++ (cl_Store x ++ (ys.drop (i + 1)).flatMap cl_Store) from by conv => lhs; rw [split_next hx, List.flatMap_append, List.flatMap_cons])
 have HE := Lib.hid (show ys.eraseIdx i = ys.take i ++ ys.drop (i + 1) from List.eraseIdx_eq_take_drop_succ ..)
 clear hx
 by_cases hci : c = i + 1
 ·
  have HCI := Lib.hid hci
  have hci2 : (c = i + 1) = True := by simp [hci]
  clear hci
  go_enter Tryz.func111, Tryz.ntmps111
  go_upto_region 5 with fail
  refine wp_region_held_drew (S := (fun w' => True)) (by kernel_rfl) trivial (fun hS => ?_)
  have S2 := Lib.hid (Bag.drew1 S1.out)
  clear S1
  generalize World.drew _ = w1 at hS S2 ⊢
  refine tk 0 rfl ?_
  try simp only [zp0, zp1, zp2, zp3, zp4]
  refine tk 1 rfl ?_
  try simp only [zp0, zp1, zp2, zp3, zp4]
  refine tk 2 rfl ?_
  try simp only [zp0, zp1, zp2, zp3, zp4]
  refine tk 3 rfl ?_
  try simp only [zp0, zp1, zp2, zp3, zp4]
  refine tk 4 rfl ?_
  try simp only [zp0, zp1, zp2, zp3, zp4]
  refine tk 5 rfl ?_
  try simp only [zp0, zp1, zp2, zp3, zp4]
  refine Reg.one_op (i := 6) rfl (by kernel_rfl) (fun K hK => ?_)
  skip
  refine step_append_in S2.out 0 rfl rfl _ _ 30 (by rfl) i0 Tryz.underlying30 HI.out.1 HI.out.2.2.1 i c (by rfl) ⟨g, 0, none⟩ (N - (i + 1)) (c - (i + 1)) (by rfl) w1.heap.size ((ys.drop (i + 1)).flatMap cl_Store) (by rw [List.drop_of_length_le (by have := HN.out; have := HCI.out; omega)]; exact fun j hj => absurd hj (by simp)) HD.out (by omega) (by rw [HD.out, HYL.out]; have := HIL.out; have := HN.out; omega) (one_flat cl_Store_one _) ?_
  intro w4 S'
  obtain ⟨XT, hXT⟩ : ∃ u, u = (cl_Store x ++ (ys.drop (i + 1)).flatMap cl_Store).drop ((ys.drop (i + 1)).flatMap cl_Store).length := ⟨_, rfl⟩
  have HXT := Lib.hid (show XT.length = 3 by rw [hXT, List.length_drop, List.length_append, cl_Store_len]; omega)
  have S3 := Lib.hid (show Sl.Sep W _ [Sv.ownV 70 3 (some ⟨g, 0, none⟩) c N ((ys.take i ++ ys.drop (i + 1)).flatMap cl_Store ++ XT), Run.restR W w g] from (by have h := S'; rw [HX.out, Run.over_at _ _ _ _ HTK.out (by rw [List.length_append]; omega), ← hXT] at h; rw [List.flatMap_append, List.append_assoc]; exact h))
  clear S2
  clear S' hXT
  refine hK.out _ _ trivial (fun hS => ?_)
  clear hK K
  try simp only [zp0, zp1, zp2, zp3, zp4]
  refine tk 7 rfl ?_
  try simp only [zp0, zp1, zp2, zp3, zp4]
  refine wpAnyH_done (by kernel_rfl) ?_ _
  have hn1 : i + (N - (i + 1)) = N - 1 := by omega
  obtain ⟨M, hM⟩ : ∃ u, u = N - 1 := ⟨_, rfl⟩
  rw [hn1, ← hM]
  have hMN : M + 1 = N := by omega
  clear hn1
  have HMM := Lib.hid hM
  clear hM
  have hcM : ¬ c = M := by omega
  have hMc : (M : Int) ≤ ((c : Nat) : Int) := by omega
  have hMN2 : (M : Int) ≤ ((N : Nat) : Int) := by omega
  have HAL := Lib.hid (show ((ys.take i ++ ys.drop (i + 1)).flatMap cl_Store).length = M * 3 by rw [flat_len cl_Store_len, List.length_append, take_len (by have := HIL.out; omega), List.length_drop]; have := HN.out; have := HMM.out; have := HIL.out; rw [show i + (ys.length - (i + 1)) = M by omega])
  obtain ⟨Zs, hZs⟩ : ∃ Z, Z = (Builtin.zeroCells (Value.agg #[.string ⟨#[]⟩, .slice none 0 0, .int .i64 0]).cells (N - M)).toList := ⟨_, rfl⟩
  have HZS := Lib.hid (show Zs.length = 3 by rw [hZs, Array.length_toList, size_zeroCells, show N - M = 1 by omega]; rfl)
  have hRl : M * 3 + 3 ≤ ((ys.take i ++ ys.drop (i + 1)).flatMap cl_Store ++ XT).length := by rw [List.length_append, HAL.out, HXT.out]; omega
  have hcl := fun ty cc => Run.run_clear_rows (P := Tryz.prog) w4 30 70 ty i0 (.agg #[.string ⟨#[]⟩, .slice none 0 0, .int .i64 0]) g (M * 3) (N - M) cc Tryz.underlying30 HI.out.1 HI.out.2.1 (fun j hj => by rw [(Sv.own_at S3.out 0 rfl).cell (M * 3 + j) (by rw [show N - M = 1 by omega] at hj; simp [Value.cells] at hj; omega)]; rfl) (fun j _ => (Sv.own_at S3.out 0 rfl).free (M * 3 + j)) (zeros_one (z := (.agg #[.string ⟨#[]⟩, .slice none 0 0, .int .i64 0])) (by simp [Value.cells]; decide) (by decide) (N - M))
  rw [← hZs] at hcl
  clear hZs
  obtain ⟨w8, hw⟩ : ∃ u, u = World.setCells w4 g (M * 3) Zs := ⟨_, rfl⟩
  rw [← hw] at hcl
  have HW := Lib.hid hw
  have HRL := Lib.hid hRl
  clear hw hRl
  go_wp2_with fail
  have S4 := Lib.hid (show Sl.Sep W _ [Sv.ownV 70 3 (some ⟨g, 0, none⟩) c N ((ys.take i ++ ys.drop (i + 1)).flatMap cl_Store ++ Zs), _] from (by have h := Run.put_run S3.out 0 rfl (M * 3) Zs (by rw [HZS.out]; exact HRL.out); rw [← HW.out, Run.over_at _ _ _ _ HAL.out (by rw [HZS.out, HXT.out]; exact Nat.le_refl _), show XT.drop Zs.length = [] from List.drop_of_length_le (by rw [HXT.out, HZS.out]; exact Nat.le_refl _), List.append_nil] at h; exact h))
  clear S3
  go_ret
  have S90 := Run.shorter S4.out 0 rfl M (by omega)
  rw [List.take_left' HAL.out] at S90
  have hM := HMM.out
  subst hM
  rw [HE.out]
  exact ⟨rfl, S90⟩
 ·
  skip
  go_enter Tryz.func111, Tryz.ntmps111
  go_upto_region 5 with fail
  refine wp_region_held_drew (S := (fun w' => True)) (by kernel_rfl) trivial (fun hS => ?_)
  have S2 := Lib.hid (Bag.drew1 S1.out)
  clear S1
  generalize World.drew _ = w1 at hS S2 ⊢
  refine tk 0 rfl ?_
  try simp only [zp0, zp1, zp2, zp3, zp4]
  refine tk 1 rfl ?_
  try simp only [zp0, zp1, zp2, zp3, zp4]
  refine tk 2 rfl ?_
  try simp only [zp0, zp1, zp2, zp3, zp4]
  refine tk 3 rfl ?_
  try simp only [zp0, zp1, zp2, zp3, zp4]
  refine tk 4 rfl ?_
  try simp only [zp0, zp1, zp2, zp3, zp4]
  refine tk 5 rfl ?_
  try simp only [zp0, zp1, zp2, zp3, zp4]
  refine Reg.one_op (i := 6) rfl (by kernel_rfl) (fun K hK => ?_)
  refine step_append_in S2.out 0 rfl rfl _ _ 30 (by rfl) i0 Tryz.underlying30 HI.out.1 HI.out.2.2.1 i c (by rfl) ⟨g, (i + 1) * 3, none⟩ (N - (i + 1)) (c - (i + 1)) (by rfl) w1.heap.size ((ys.drop (i + 1)).flatMap cl_Store) (reads_drop cl_Store_len (Sv.own_at S2.out 0 rfl).reads HIL.out) HD.out (by omega) (by rw [HD.out, HYL.out]; have := HIL.out; have := HN.out; omega) (one_flat cl_Store_one _) ?_
  intro w4 S'
  obtain ⟨XT, hXT⟩ : ∃ u, u = (cl_Store x ++ (ys.drop (i + 1)).flatMap cl_Store).drop ((ys.drop (i + 1)).flatMap cl_Store).length := ⟨_, rfl⟩
  have HXT := Lib.hid (show XT.length = 3 by rw [hXT, List.length_drop, List.length_append, cl_Store_len]; omega)
  have S3 := Lib.hid (show Sl.Sep W _ [Sv.ownV 70 3 (some ⟨g, 0, none⟩) c N ((ys.take i ++ ys.drop (i + 1)).flatMap cl_Store ++ XT), Run.restR W w g] from (by have h := S'; rw [HX.out, Run.over_at _ _ _ _ HTK.out (by rw [List.length_append]; omega), ← hXT] at h; rw [List.flatMap_append, List.append_assoc]; exact h))
  clear S2
  clear S' hXT
  refine hK.out _ _ trivial (fun hS => ?_)
  clear hK K
  try simp only [zp0, zp1, zp2, zp3, zp4]
  refine tk 7 rfl ?_
  try simp only [zp0, zp1, zp2, zp3, zp4]
  refine wpAnyH_done (by kernel_rfl) ?_ _
  have hn1 : i + (N - (i + 1)) = N - 1 := by omega
  obtain ⟨M, hM⟩ : ∃ u, u = N - 1 := ⟨_, rfl⟩
  rw [hn1, ← hM]
  have hMN : M + 1 = N := by omega
  clear hn1
  have HMM := Lib.hid hM
  clear hM
  have hcM : ¬ c = M := by omega
  have hMc : (M : Int) ≤ ((c : Nat) : Int) := by omega
  have hMN2 : (M : Int) ≤ ((N : Nat) : Int) := by omega
  have HAL := Lib.hid (show ((ys.take i ++ ys.drop (i + 1)).flatMap cl_Store).length = M * 3 by rw [flat_len cl_Store_len, List.length_append, take_len (by have := HIL.out; omega), List.length_drop]; have := HN.out; have := HMM.out; have := HIL.out; rw [show i + (ys.length - (i + 1)) = M by omega])
  obtain ⟨Zs, hZs⟩ : ∃ Z, Z = (Builtin.zeroCells (Value.agg #[.string ⟨#[]⟩, .slice none 0 0, .int .i64 0]).cells (N - M)).toList := ⟨_, rfl⟩
  have HZS := Lib.hid (show Zs.length = 3 by rw [hZs, Array.length_toList, size_zeroCells, show N - M = 1 by omega]; rfl)
  have hRl : M * 3 + 3 ≤ ((ys.take i ++ ys.drop (i + 1)).flatMap cl_Store ++ XT).length := by rw [List.length_append, HAL.out, HXT.out]; omega
  have hcl := fun ty cc => Run.run_clear_rows (P := Tryz.prog) w4 30 70 ty i0 (.agg #[.string ⟨#[]⟩, .slice none 0 0, .int .i64 0]) g (M * 3) (N - M) cc Tryz.underlying30 HI.out.1 HI.out.2.1 (fun j hj => by rw [(Sv.own_at S3.out 0 rfl).cell (M * 3 + j) (by rw [show N - M = 1 by omega] at hj; simp [Value.cells] at hj; omega)]; rfl) (fun j _ => (Sv.own_at S3.out 0 rfl).free (M * 3 + j)) (zeros_one (z := (.agg #[.string ⟨#[]⟩, .slice none 0 0, .int .i64 0])) (by simp [Value.cells]; decide) (by decide) (N - M))
  rw [← hZs] at hcl
  clear hZs
  obtain ⟨w8, hw⟩ : ∃ u, u = World.setCells w4 g (M * 3) Zs := ⟨_, rfl⟩
  rw [← hw] at hcl
  have HW := Lib.hid hw
  have HRL := Lib.hid hRl
  clear hw hRl
  go_wp2_with fail
  have S4 := Lib.hid (show Sl.Sep W _ [Sv.ownV 70 3 (some ⟨g, 0, none⟩) c N ((ys.take i ++ ys.drop (i + 1)).flatMap cl_Store ++ Zs), _] from (by have h := Run.put_run S3.out 0 rfl (M * 3) Zs (by rw [HZS.out]; exact HRL.out); rw [← HW.out, Run.over_at _ _ _ _ HAL.out (by rw [HZS.out, HXT.out]; exact Nat.le_refl _), show XT.drop Zs.length = [] from List.drop_of_length_le (by rw [HXT.out, HZS.out]; exact Nat.le_refl _), List.append_nil] at h; exact h))
  clear S3
  go_ret
  have S90 := Run.shorter S4.out 0 rfl M (by omega)
  rw [List.take_left' HAL.out] at S90
  have hM := HMM.out
  subst hM
  rw [HE.out]
  exact ⟨rfl, S90⟩
theorem delete_Store {W w : World} {rs : List Res} (h : Sl.Sep W w rs) (q : Nat) {g c : Nat} {ys : List L6.LS} (hq : rs[q]? = some (Sv.ownV 70 3 (some ⟨g, 0, none⟩) c ys.length ((ys).flatMap cl_Store))) (i : Nat) (hi : i < ys.length) (hl : ys.length ≤ 1048576) :
  Calls Tryz.prog 111 #[.slice (some ⟨g, 0, none⟩) ys.length c, .int .i64 i, .int .i64 ((i : Int) + 1)] w fun e w' => e = .returned (.slice (some ⟨g, 0, none⟩) (ys.length - 1) c) ∧ Sl.Sep W w' (rs.set q (Sv.ownV 70 3 (some ⟨g, 0, none⟩) c (ys.length - 1) ((ys.eraseIdx i).flatMap cl_Store))) :=
 (delete_Store_sep g c i ys hi hl W w (Run.rest_start h q hq)).mono fun _ _ ⟨he, hs⟩ => ⟨he, Run.rest_back h q hq hs⟩
end Go.Proofs.YthljdhfgphebnaaGreat.V

set_option linter.unusedSimpArgs false
namespace Go.Proofs.YthljdhfgphebnaaGreat.V
open Go.ChangeShapes Go.WideShapes Go.ChangeAt Go.RowKit Mem Sl Sv Bag
theorem infoL_IndexDef : ∃ i, Tryz.prog.info? 73 = some i ∧ i.zero = some (.agg #[.string ⟨#[]⟩, .string ⟨#[]⟩]) ∧ i.size = 2 ∧ i.bytes = 32 := Ex.infoOf _ _ _ _ (by kernel_rfl)
def Tests_IndexDef (Fn g : Nat) (f : X_IndexDef → Bool) (xs : List X_IndexDef) (w : World) : Prop :=
 ∀ x ∈ xs, ∀ w', Below w.heap.size w w' → Calls Tryz.prog Fn #[vv_IndexDef x, .pointer (some ⟨g, 0, none⟩)] w' fun e w'' => e = .returned (.bool (f x)) ∧ Below w'.heap.size w' w''
def TestsC_IndexDef (Fn g : Nat) (f : X_IndexDef → Bool) (xs : List X_IndexDef) (w : World) : Prop :=
 ∀ x ∈ xs, ∀ w', w.heap.size ≤ w'.heap.size → w'.heap[g]? = w.heap[g]? → Calls Tryz.prog Fn #[vv_IndexDef x, .pointer (some ⟨g, 0, none⟩)] w' fun e w'' => e = .returned (.bool (f x)) ∧ Below w'.heap.size w' w''
theorem TestsC_IndexDef.below {Fn g : Nat} {f : X_IndexDef → Bool} {xs : List X_IndexDef} {w : World} (h : TestsC_IndexDef Fn g f xs w) (hg : g < w.heap.size) : Tests_IndexDef Fn g f xs w := fun x hx w' hb => h x hx w' hb.size (hb.block g hg)
set_option maxHeartbeats 2000000 in
theorem indexFunc_IndexDef (g : Nat) (f : X_IndexDef → Bool) (a : Option Addr) (c : Nat) (xs : List X_IndexDef) (hl : xs.length ≤ 1048576) (w : World) (hr : Reads w w.heap.size a ((xs).flatMap cl_IndexDef)) (hp : Tests_IndexDef 113 g f xs w) :
  Calls Tryz.prog 147 #[.slice a xs.length c, .func (.func 113) #[] #[.pointer (some ⟨g, 0, none⟩)]] w fun e w' => e = .returned (.int .i64 (ixV f xs)) ∧ Below w.heap.size w w' := by
 have HR := Lib.hid (fun w' (h : Below w.heap.size w w') => hr.below h)
 have HP := Lib.hid hp
 obtain ⟨N, hN⟩ : ∃ n, n = xs.length := ⟨_, rfl⟩
 rw [← hN] at hl ⊢
 have hl' : (N : Int) ≤ 1048576 := by omega
 have HN := Lib.hid hN
 clear hN hr hp
 have S1 := Lib.hid (show Sl.Sep w w [] from Sl.Sep.start w)
 go_enter Tryz.func147, Tryz.ntmps147
 go_wp2_with fail
 go_loopw [8] (fun i wr => ∃ k : Nat, k ≤ N ∧ i = .int .i64 k ∧ Hid ((∀ (j : Nat) (y : X_IndexDef), xs[j]? = some y → j < k → f y = false) ∧ Sl.Sep w wr [])) (fun i _ => N - (intOf i).toNat)
 case atStart => exact ⟨0, Nat.zero_le _, rfl, And.intro (fun j y hj h => absurd h (by omega)) S1.out⟩
 case round =>
  obtain ⟨k, hk, rfl, hrel⟩ := hrel
  have HA := Lib.hid hrel.out.1
  have S2 := Lib.hid hrel.out.2
  clear hrel S1
  by_cases hlt : (k : Int) < (N : Int)
  ·
   skip
   have hkl : k < xs.length := by have := HN.out; omega
   obtain ⟨x, hx⟩ : ∃ x, xs[k]? = some x := ⟨_, List.getElem?_eq_getElem hkl⟩
   obtain ⟨ad, e'⟩ := el_some cl_IndexDef_len (by decide) (HR.out _ S2.out.old) hkl
   subst e'
   have HKx := Lib.hid (fun w' (h : Below w.heap.size w w') => el2 cl_IndexDef_len (HR.out _ h) hx rfl)
   have HXx := Lib.hid hx
   clear hx
   have HPX := fun w' (h : Below w.heap.size w w') => HP.out x (List.mem_of_getElem? HXx.out) w' h
   dsimp only [vv_IndexDef] at HPX
   obtain ⟨b, hb⟩ : ∃ b, f x = b := ⟨_, rfl⟩
   rw [hb] at HPX
   replace HPX := Lib.hid HPX
   have HB := Lib.hid hb
   clear hb
   obtain ⟨f0, f1⟩ := HKx.out _ S2.out.old
   go_wp2_with fail
   go_at_call 113
   refine (HPX.out _ S2.out.old).mono ?_
   rintro e w3 ⟨rfl, hb⟩
   clear f0 f1
   have S3 := Lib.hid (S2.out.keep hb)
   clear S2
   clear hb
   cases b with
   | true =>
    go_wp2_with fail
    go_ret
    exact ⟨by rw [ixV_at k _ HXx.out HB.out HA.out]; rfl, S3.out.old⟩
   | false =>
    go_wp2_with fail
    go_roundw
    case rel => exact ⟨k + 1, by omega, by go_num, And.intro (fun j y hj h => by
     by_cases e : j < k
     ·
      exact HA.out j y hj e
     ·
      obtain rfl : j = k := by omega
      rw [HXx.out] at hj; rw [← Option.some.inj hj]; exact HB.out) S3.out⟩
    case measure => simp [intOf]; omega
  ·
   skip
   go_wp2_with fail
   go_ret
   obtain rfl : k = N := by omega
   exact ⟨by rw [ixV_none (fun j y hj => HA.out j y hj (by have := HN.out; have := (List.getElem?_eq_some_iff.1 hj).1; omega))]; rfl, S2.out.old⟩
set_option maxHeartbeats 8000000 in
theorem deleteFunc_IndexDef_sep (g gc c : Nat) (f : X_IndexDef → Bool) (ys : List X_IndexDef) (hl : ys.length ≤ 1048576) (W w : World) (S : Sl.Sep W w [Sv.ownV 73 2 (some ⟨g, 0, none⟩) c ys.length ((ys).flatMap cl_IndexDef), Run.restR W w g]) (hgc : gc < w.heap.size) (hne : gc ≠ g) (ht : TestsC_IndexDef 113 gc f ys w) :
  Calls Tryz.prog 112 #[.slice (some ⟨g, 0, none⟩) ys.length c, .func (.func 113) #[] #[.pointer (some ⟨gc, 0, none⟩)]] w fun e w' => ∃ zs, e = .returned (.slice (some ⟨g, 0, none⟩) zs.length c) ∧ zs = stays f ys ∧ Sl.Sep W w' [Sv.ownV 73 2 (some ⟨g, 0, none⟩) c zs.length ((zs).flatMap cl_IndexDef), Run.restR W w g] := by
 obtain ⟨i0', hi1, hi2, hi3, hi4⟩ := infoL_IndexDef
 have HI := Lib.hid (And.intro hi1 (And.intro hi2 (And.intro hi3 hi4)))
 clear hi1 hi2 hi3 hi4
 have HB0 := Lib.hid S.old
 have HT := Lib.hid ht
 have HTB := Lib.hid (ht.below hgc)
 have HG := Lib.hid (show gc < w.heap.size ∧ gc ≠ g from ⟨hgc, hne⟩)
 obtain ⟨N, hN⟩ : ∃ n, n = ys.length := ⟨_, rfl⟩
 rw [← hN] at S hl
 have hl' : (N : Int) ≤ 1048576 := by omega
 have HN := Lib.hid hN
 have HCN := Lib.hid (Sv.own_at S 0 rfl).cap
 have HIX := Lib.hid (indexFunc_IndexDef gc f (some ⟨g, 0, none⟩) c ys (by omega) w (Sv.own_at S 0 rfl).reads HTB.out)
 rw [← hN] at HIX ⊢
 have S1 := Lib.hid S
 clear hN S ht
 go_enter Tryz.func112, Tryz.ntmps112
 go_wp2_with fail
 go_at_call 147
 refine (HIX.out).mono ?_
 rintro e w1 ⟨rfl, hb⟩
 have S2 := Lib.hid (S1.out.keep hb)
 clear S1
 clear hb
 rcases ixV_cases f ys with ⟨hix, hall⟩ | ⟨i0, x0, hix, hx0, hfi, hbef⟩
 ·
  rw [hix]
  have HA := Lib.hid (stays_all hall)
  clear hix hall
  go_wp2_with fail
  go_ret
  exact ⟨stays f ys, by rw [HA.out, ← HN.out]; rfl, rfl, by rw [HA.out, ← HN.out]; exact S2.out⟩
 ·
  rw [hix]
  have hi0 := (List.getElem?_eq_some_iff.1 hx0).1
  have hiN : i0 < N := by have := HN.out; omega
  have hiI : (i0 : Int) < (N : Int) := by omega
  have HK0 := Lib.hid (show stays f (ys.take i0) = ys.take i0 from stays_all (fun j y hj => by
   rw [List.getElem?_take] at hj
   split at hj
   ·
    exact hbef j y hj (by omega)
   ·
    cases hj))
  have HX0 := Lib.hid (show stays f (ys.take (i0 + 1)) = ys.take i0 from by rw [stays_take hx0, HK0.out, hfi]; simp)
  have HR0 := Lib.hid (show (ys).flatMap cl_IndexDef = (ys.take i0).flatMap cl_IndexDef ++ (([x0]).flatMap cl_IndexDef ++ (ys.drop (i0 + 1)).flatMap cl_IndexDef) from by rw [show ([x0]).flatMap cl_IndexDef = cl_IndexDef x0 from by simp]; conv => lhs; rw [split_next hx0, List.flatMap_append, List.flatMap_cons])
  clear hix hfi hbef hx0
  have hne1 : ¬ (i0 : Int) = -1 := by omega
  have hne2 : ((i0 : Int) == -1) = false := beq_eq_false_iff_ne.2 hne1
  go_upto_region 5 with fail
  have S3 := Lib.hid (show Sl.Sep W _ [Sv.ownV 73 2 (some ⟨g, 0, none⟩) c N ((ys.take i0).flatMap cl_IndexDef ++ (([x0]).flatMap cl_IndexDef ++ (ys.drop (i0 + 1)).flatMap cl_IndexDef)), Run.restR W w g] from (by have h := S2.out; rw [HR0.out] at h; exact h))
  clear S2
  go_loopw [5, 6] (fun u v wr => ∃ (m k : Nat) (zs : List X_IndexDef) (Ms : List Value), u = .int .i64 m ∧ v = .int .i64 k ∧ m < k ∧ k ≤ N ∧ Hid ((zs = stays f (ys.take k) ∧ zs.length = m ∧ Ms.length = (k - m) * 2) ∧ Sl.Sep W wr [Sv.ownV 73 2 (some ⟨g, 0, none⟩) c N ((zs).flatMap cl_IndexDef ++ (Ms ++ (ys.drop k).flatMap cl_IndexDef)), Run.restR W w g])) (fun _ v _ => N - (intOf v).toNat)
  case atStart => exact ⟨i0, i0 + 1, ys.take i0, _, rfl, by go_num, by omega, by omega, And.intro ⟨HX0.out.symm, by rw [List.length_take]; omega, by rw [flat_len cl_IndexDef_len]; simp⟩ S3.out⟩
  case round =>
   obtain ⟨m, k, zs, Ms, rfl, rfl, hmk, hk, hrel⟩ := hrel
   have HC := Lib.hid hrel.out.1
   have S4 := Lib.hid hrel.out.2
   clear hrel S3
   have HZL := Lib.hid (show ((zs).flatMap cl_IndexDef).length = m * 2 by rw [flat_len cl_IndexDef_len, HC.out.2.1])
   by_cases hlt : (k : Int) < (N : Int)
   ·
    skip
    have hkl : k < ys.length := by have := HN.out; omega
    obtain ⟨x, hx⟩ : ∃ x, ys[k]? = some x := ⟨_, List.getElem?_eq_getElem hkl⟩
    have HD := Lib.hid (show (ys.drop k).flatMap cl_IndexDef = ([x]).flatMap cl_IndexDef ++ (ys.drop (k + 1)).flatMap cl_IndexDef from by rw [drop_next hx, List.flatMap_cons]; simp)
    have HO1 := Lib.hid (show (([x]).flatMap cl_IndexDef).length = 2 by rw [flat_len cl_IndexDef_len]; simp)
    have HMEM := Lib.hid (List.mem_of_getElem? hx)
    obtain ⟨b, hb⟩ : ∃ b, f x = b := ⟨_, rfl⟩
    have HB := Lib.hid hb
    clear hb
    have HKT := Lib.hid (stays_take (f := f) hx)
    rw [HB.out] at HKT
    clear hx
    have hrd := (Sv.own_at S4.out 0 rfl).reads
    rw [← List.append_assoc, HD.out] at hrd
    have hrd2 := Run.reads_app hrd
    rw [List.length_append, HZL.out, HC.out.2.2, show 0 + (m * 2 + (k - m) * 2) = k * 2 by omega] at hrd2
    have hrd3 : ∀ (j : Nat) v, (cl_IndexDef x)[j]? = some v → World.cell? wr ⟨g, k * 2 + j, none⟩ = some v := fun j v hj => by
     have h := reads_cell hrd2 (j := j) (v := v) (by rw [List.getElem?_append_left (by rw [HO1.out]; have := (List.getElem?_eq_some_iff.1 hj).1; rw [cl_IndexDef_len] at this; exact this)]; simpa using hj)
     rwa [Addr.add_lit] at h
    have f0 := hrd3 0 _ rfl
    have f1 := hrd3 1 _ rfl
    rw [Nat.add_zero] at f0
    clear hrd hrd2 hrd3
    go_upto_region 8 with fail
    clear f0 f1
    have S5 := Lib.hid (show Sl.Sep W _ [_, _, _] from L4.push_box S4.out 73 #[.string x.f_Store, .string x.f_Field] wr.heap.size rfl)
    clear S4
    obtain ⟨g1, hg⟩ : ∃ g', g' = wr.heap.size := ⟨_, rfl⟩
    rw [← hg] at S5 ⊢
    clear hg
    generalize wr.alloc (.cells #[.string x.f_Store, .string x.f_Field] 73) = w2 at S5 ⊢
    obtain ⟨f0, f1⟩ := Bag.cs2 S5.out 2 rfl
    have HCALL := HT.out _ HMEM.out w2 (Run.rest_turned HB0.out S5.out).size (Run.rest_block HB0.out S5.out gc HG.out.1 HG.out.2)
    rw [HB.out] at HCALL
    dsimp only [vv_IndexDef] at HCALL
    replace HCALL := Lib.hid HCALL
    go_wp2_with fail
    go_at_call 113
    refine (HCALL.out).mono ?_
    rintro e w3 ⟨rfl, hb⟩
    clear f0 f1
    have S6 := Lib.hid (S5.out.keep hb)
    clear S5
    clear hb
    obtain ⟨f0, f1⟩ := Bag.cs2 S6.out 2 rfl
    clear HCALL
    cases b with
    | true =>
     clear f0 f1
     have S7 := Lib.hid (show Sl.Sep W _ [Sv.ownV 73 2 (some ⟨g, 0, none⟩) c N ((zs).flatMap cl_IndexDef ++ (Ms ++ (ys.drop k).flatMap cl_IndexDef)), Run.restR W w g] from Bag.take S6.out [0, 1] (by rfl) (by decide))
     clear S6
     have S8 := Lib.hid (show Sl.Sep W _ [Sv.ownV 73 2 (some ⟨g, 0, none⟩) c N ((zs).flatMap cl_IndexDef ++ ((Ms ++ ([x]).flatMap cl_IndexDef) ++ (ys.drop (k + 1)).flatMap cl_IndexDef)), _] from (by have h := S7.out; rw [HD.out, ← List.append_assoc Ms] at h; exact h))
     clear S7
     go_wp2_with fail
     go_roundw
     case rel => exact ⟨m, k + 1, zs, _, rfl, by go_num, by omega, by omega, And.intro ⟨by rw [HKT.out, HC.out.1]; simp, HC.out.2.1, by rw [List.length_append, HO1.out, HC.out.2.2]; omega⟩ S8.out⟩
     case measure => simp [intOf]; omega
    | false =>
     have hRl : m * 2 + 2 ≤ ((zs).flatMap cl_IndexDef ++ (Ms ++ (ys.drop k).flatMap cl_IndexDef)).length := by rw [List.length_append, List.length_append, HZL.out, HC.out.2.2, HD.out, List.length_append, HO1.out]; omega
     have HRL := Lib.hid hRl
     clear hRl
     have hmN : (m : Int) < (N : Int) := by omega
     have q0 := (Sv.own_at S6.out 0 rfl).cell (m * 2) (by have := HRL.out; omega)
     have z0 := (Sv.own_at S6.out 0 rfl).free (m * 2)
     have q1 := (Sv.own_at S6.out 0 rfl).cell (m * 2 + 1) (by have := HRL.out; omega)
     have z1 := (Sv.own_at S6.out 0 rfl).free (m * 2 + 1)
     go_wp2_with fail
     clear f0 f1 q0 z0 q1 z1
     have S7 := Lib.hid (show Sl.Sep W ((w3.setCell ⟨g, m * 2, none⟩ (.string x.f_Store)).setCell ⟨g, m * 2 + 1, none⟩ (.string x.f_Field)) [Sv.ownV 73 2 (some ⟨g, 0, none⟩) c N ((zs ++ [x]).flatMap cl_IndexDef ++ ((Ms ++ ([x]).flatMap cl_IndexDef).drop 2 ++ (ys.drop (k + 1)).flatMap cl_IndexDef)), Run.restR W w g, L4.boxR g1 73 #[.string x.f_Store, .string x.f_Field]] from (by have h := Run.put_run S6.out 0 rfl (m * 2) [.string x.f_Store, .string x.f_Field] (by have := HRL.out; simpa using this); rw [Run.over_at _ _ _ _ HZL.out (by rw [HD.out, List.length_append, List.length_append, HO1.out]; simp; omega), HD.out, ← List.append_assoc Ms, List.drop_append_of_le_length (by rw [List.length_append, HO1.out]; simp)] at h; rw [List.flatMap_append, List.append_assoc]; exact h))
     clear S6
     have S8 := Lib.hid (show Sl.Sep W _ [_, _] from Bag.take S7.out [0, 1] (by rfl) (by decide))
     clear S7
     go_roundw
     case rel => exact ⟨m + 1, k + 1, zs ++ [x], (Ms ++ ([x]).flatMap cl_IndexDef).drop 2, by go_num, by go_num, by omega, by omega, And.intro ⟨by rw [HKT.out, HC.out.1]; simp, by rw [List.length_append, HC.out.2.1]; rfl, by rw [List.length_drop, List.length_append, HO1.out, HC.out.2.2]; omega⟩ S8.out⟩
     case measure => simp [intOf]; omega
   ·
    skip
    obtain rfl : k = N := by omega
    have hcN : k ≤ c := HCN.out
    have hcm : ¬ c = m := by omega
    have hmc : (m : Int) ≤ (c : Int) := by omega
    have hkc : (k : Int) ≤ (c : Int) := by omega
    have hmk2 : (m : Int) ≤ (k : Int) := by omega
    have hdk : (ys.drop k).flatMap cl_IndexDef = [] := by rw [List.drop_of_length_le (by have := HN.out; omega)]; rfl
    have S5 := Lib.hid (show Sl.Sep W _ [Sv.ownV 73 2 (some ⟨g, 0, none⟩) c k ((zs).flatMap cl_IndexDef ++ Ms), Run.restR W w g] from (by have h := S4.out; rw [hdk, List.append_nil] at h; exact h))
    clear S4
    clear hdk
    obtain ⟨Zs, hZs⟩ : ∃ Z, Z = (Builtin.zeroCells (Value.agg #[.string ⟨#[]⟩, .string ⟨#[]⟩]).cells (k - m)).toList := ⟨_, rfl⟩
    have HZS := Lib.hid (show Zs.length = (k - m) * 2 by rw [hZs, Array.length_toList, size_zeroCells]; rfl)
    have hRl : m * 2 + (k - m) * 2 ≤ ((zs).flatMap cl_IndexDef ++ Ms).length := by rw [List.length_append, HZL.out, HC.out.2.2]; omega
    have hcl := fun ty cc => Run.run_clear_rows (P := Tryz.prog) wr 31 73 ty i0' (.agg #[.string ⟨#[]⟩, .string ⟨#[]⟩]) g (m * 2) (k - m) cc Tryz.underlying31 HI.out.1 HI.out.2.1 (fun j hj => by rw [(Sv.own_at S5.out 0 rfl).cell (m * 2 + j) (by simp [Value.cells] at hj; omega)]; rfl) (fun j _ => (Sv.own_at S5.out 0 rfl).free (m * 2 + j)) (zeros_one (z := (.agg #[.string ⟨#[]⟩, .string ⟨#[]⟩])) (by simp [Value.cells]; decide) (by decide) (k - m))
    rw [← hZs] at hcl
    clear hZs
    obtain ⟨w8, hw⟩ : ∃ u, u = World.setCells wr g (m * 2) Zs := ⟨_, rfl⟩
    rw [← hw] at hcl
    have HW := Lib.hid hw
    have HRL := Lib.hid hRl
    clear hw hRl
    go_wp2_with fail
    have S6 := Lib.hid (show Sl.Sep W _ [Sv.ownV 73 2 (some ⟨g, 0, none⟩) c k ((zs).flatMap cl_IndexDef ++ Zs), _] from (by have h := Run.put_run S5.out 0 rfl (m * 2) Zs (by rw [HZS.out]; exact HRL.out); rw [← HW.out, Run.over_at _ _ _ _ HZL.out (by rw [HZS.out, HC.out.2.2]; exact Nat.le_refl _), List.drop_of_length_le (by rw [HC.out.2.2, HZS.out]; exact Nat.le_refl _), List.append_nil] at h; exact h))
    clear S5
    go_ret
    have S90 := Run.shorter S6.out 0 rfl m (by omega)
    rw [List.take_left' HZL.out] at S90
    have hz := HC.out.1
    rw [List.take_of_length_le (by have := HN.out; omega)] at hz
    have hm := HC.out.2.1
    subst hm
    exact ⟨zs, rfl, hz, S90⟩
theorem deleteFunc_IndexDef {W w : World} {rs : List Res} (h : Sl.Sep W w rs) (q : Nat) {g c : Nat} {ys : List X_IndexDef} (hq : rs[q]? = some (Sv.ownV 73 2 (some ⟨g, 0, none⟩) c ys.length ((ys).flatMap cl_IndexDef))) (gc : Nat) (f : X_IndexDef → Bool) (hl : ys.length ≤ 1048576) (hgc : gc < w.heap.size) (hne : gc ≠ g) (ht : TestsC_IndexDef 113 gc f ys w) :
  Calls Tryz.prog 112 #[.slice (some ⟨g, 0, none⟩) ys.length c, .func (.func 113) #[] #[.pointer (some ⟨gc, 0, none⟩)]] w fun e w' => e = .returned (.slice (some ⟨g, 0, none⟩) (stays f ys).length c) ∧ Sl.Sep W w' (rs.set q (Sv.ownV 73 2 (some ⟨g, 0, none⟩) c (stays f ys).length ((stays f ys).flatMap cl_IndexDef))) :=
 (deleteFunc_IndexDef_sep g gc c f ys hl W w (Run.rest_start h q hq) hgc hne ht).mono fun _ _ ⟨zs, he, hz, hs⟩ => by subst hz; exact ⟨he, Run.rest_back h q hq hs⟩
set_option maxHeartbeats 8000000 in
theorem delete_IndexDef_sep (g c i : Nat) (ys : List X_IndexDef) (hi : i < ys.length) (hl : ys.length ≤ 1048576) (W w : World) (S : Sl.Sep W w [Sv.ownV 73 2 (some ⟨g, 0, none⟩) c ys.length ((ys).flatMap cl_IndexDef), Run.restR W w g]) :
  Calls Tryz.prog 115 #[.slice (some ⟨g, 0, none⟩) ys.length c, .int .i64 i, .int .i64 ((i : Int) + 1)] w fun e w' => e = .returned (.slice (some ⟨g, 0, none⟩) (ys.length - 1) c) ∧ Sl.Sep W w' [Sv.ownV 73 2 (some ⟨g, 0, none⟩) c (ys.length - 1) ((ys.eraseIdx i).flatMap cl_IndexDef), Run.restR W w g] := by
 obtain ⟨i0, hi1, hi2, hi3, hi4⟩ := infoL_IndexDef
 have HI := Lib.hid (And.intro hi1 (And.intro hi2 (And.intro hi3 hi4)))
 clear hi1 hi2 hi3 hi4
 obtain ⟨N, hN⟩ : ∃ n, n = ys.length := ⟨_, rfl⟩
 rw [← hN] at S hl hi ⊢
 have hl' : (N : Int) ≤ 1048576 := by omega
 have HN := Lib.hid hN
 have hcap := (Sv.own_at S 0 rfl).cap
 have hc63 : c ≤ 9223372036854775807 := by
  rcases (Sv.own_at S 0 rfl).form with ⟨e, _⟩ | ⟨g, _, _, _, _, h⟩
  ·
   cases e
  ·
   unfold maxLen at h; omega
 have S1 := Lib.hid S
 clear hN S
 have h0 : ¬ (i : Int) = (i : Int) + 1 := by omega
 have h1 : (i : Int) ≤ (i : Int) + 1 := by omega
 have h2 : (i : Int) + 1 ≤ (N : Int) := by omega
 have h3 : (N : Int) ≤ (c : Int) := by omega
 have h4 : (i : Int) ≤ (N : Int) := by omega
 have h5 : (0 : Int) ≤ (i : Int) + 1 := by omega
 have h6 : ((i : Int) + 1).toNat = i + 1 := by omega
 have h7 : (i : Int) ≤ (c : Int) := by omega
 have h8 : (i : Int) + 1 ≤ (c : Int) := by omega
 have HIL := Lib.hid (show i + 1 ≤ ys.length by have := HN.out; omega)
 have HD := Lib.hid (show ((ys.drop (i + 1)).flatMap cl_IndexDef).length = (N - (i + 1)) * 2 by rw [dropM cl_IndexDef_len, ← HN.out])
 have HTK := Lib.hid (show ((ys.take i).flatMap cl_IndexDef).length = i * 2 from takeM cl_IndexDef_len (by have := HIL.out; omega))
 have HYL := Lib.hid (show ((ys).flatMap cl_IndexDef).length = N * 2 by rw [flat_len cl_IndexDef_len, HN.out])
 obtain ⟨x, hx⟩ : ∃ x, ys[i]? = some x := ⟨_, List.getElem?_eq_getElem (by have := HIL.out; omega)⟩
 have HX := Lib.hid (show (ys).flatMap cl_IndexDef = (ys.take i).flatMap cl_IndexDef ++ (cl_IndexDef x ++ (ys.drop (i + 1)).flatMap cl_IndexDef) from by conv => lhs; rw [split_next hx, List.flatMap_append, List.flatMap_cons])
 have HE := Lib.hid (show ys.eraseIdx i = ys.take i ++ ys.drop (i + 1) from List.eraseIdx_eq_take_drop_succ ..)
 clear hx
 by_cases hci : c = i + 1
 ·
  have HCI := Lib.hid hci
  have hci2 : (c = i + 1) = True := by simp [hci]
  clear hci
  go_enter Tryz.func115, Tryz.ntmps115
  go_upto_region 5 with fail
  refine wp_region_held_drew (S := (fun w' => True)) (by kernel_rfl) trivial (fun hS => ?_)
  have S2 := Lib.hid (Bag.drew1 S1.out)
  clear S1
  generalize World.drew _ = w1 at hS S2 ⊢
  refine tk 0 rfl ?_
  try simp only [zp0, zp1, zp2, zp3, zp4]
  refine tk 1 rfl ?_
  try simp only [zp0, zp1, zp2, zp3, zp4]
  refine tk 2 rfl ?_
  try simp only [zp0, zp1, zp2, zp3, zp4]
  refine tk 3 rfl ?_
  try simp only [zp0, zp1, zp2, zp3, zp4]
  refine tk 4 rfl ?_
  try simp only [zp0, zp1, zp2, zp3, zp4]
  refine tk 5 rfl ?_
  try simp only [zp0, zp1, zp2, zp3, zp4]
  refine Reg.one_op (i := 6) rfl (by kernel_rfl) (fun K hK => ?_)
  skip
  refine step_append_in S2.out 0 rfl rfl _ _ 31 (by rfl) i0 Tryz.underlying31 HI.out.1 HI.out.2.2.1 i c (by rfl) ⟨g, 0, none⟩ (N - (i + 1)) (c - (i + 1)) (by rfl) w1.heap.size ((ys.drop (i + 1)).flatMap cl_IndexDef) (by rw [List.drop_of_length_le (by have := HN.out; have := HCI.out; omega)]; exact fun j hj => absurd hj (by simp)) HD.out (by omega) (by rw [HD.out, HYL.out]; have := HIL.out; have := HN.out; omega) (one_flat cl_IndexDef_one _) ?_
  intro w4 S'
  obtain ⟨XT, hXT⟩ : ∃ u, u = (cl_IndexDef x ++ (ys.drop (i + 1)).flatMap cl_IndexDef).drop ((ys.drop (i + 1)).flatMap cl_IndexDef).length := ⟨_, rfl⟩
  have HXT := Lib.hid (show XT.length = 2 by rw [hXT, List.length_drop, List.length_append, cl_IndexDef_len]; omega)
  have S3 := Lib.hid (show Sl.Sep W _ [Sv.ownV 73 2 (some ⟨g, 0, none⟩) c N ((ys.take i ++ ys.drop (i + 1)).flatMap cl_IndexDef ++ XT), Run.restR W w g] from (by have h := S'; rw [HX.out, Run.over_at _ _ _ _ HTK.out (by rw [List.length_append]; omega), ← hXT] at h; rw [List.flatMap_append, List.append_assoc]; exact h))
  clear S2
  clear S' hXT
  refine hK.out _ _ trivial (fun hS => ?_)
  clear hK K
  try simp only [zp0, zp1, zp2, zp3, zp4]
  refine tk 7 rfl ?_
  try simp only [zp0, zp1, zp2, zp3, zp4]
  refine wpAnyH_done (by kernel_rfl) ?_ _
  have hn1 : i + (N - (i + 1)) = N - 1 := by omega
  obtain ⟨M, hM⟩ : ∃ u, u = N - 1 := ⟨_, rfl⟩
  rw [hn1, ← hM]
  have hMN : M + 1 = N := by omega
  clear hn1
  have HMM := Lib.hid hM
  clear hM
  have hcM : ¬ c = M := by omega
  have hMc : (M : Int) ≤ ((c : Nat) : Int) := by omega
  have hMN2 : (M : Int) ≤ ((N : Nat) : Int) := by omega
  have HAL := Lib.hid (show ((ys.take i ++ ys.drop (i + 1)).flatMap cl_IndexDef).length = M * 2 by rw [flat_len cl_IndexDef_len, List.length_append, take_len (by have := HIL.out; omega), List.length_drop]; have := HN.out; have := HMM.out; have := HIL.out; rw [show i + (ys.length - (i + 1)) = M by omega])
  obtain ⟨Zs, hZs⟩ : ∃ Z, Z = (Builtin.zeroCells (Value.agg #[.string ⟨#[]⟩, .string ⟨#[]⟩]).cells (N - M)).toList := ⟨_, rfl⟩
  have HZS := Lib.hid (show Zs.length = 2 by rw [hZs, Array.length_toList, size_zeroCells, show N - M = 1 by omega]; rfl)
  have hRl : M * 2 + 2 ≤ ((ys.take i ++ ys.drop (i + 1)).flatMap cl_IndexDef ++ XT).length := by rw [List.length_append, HAL.out, HXT.out]; omega
  have hcl := fun ty cc => Run.run_clear_rows (P := Tryz.prog) w4 31 73 ty i0 (.agg #[.string ⟨#[]⟩, .string ⟨#[]⟩]) g (M * 2) (N - M) cc Tryz.underlying31 HI.out.1 HI.out.2.1 (fun j hj => by rw [(Sv.own_at S3.out 0 rfl).cell (M * 2 + j) (by rw [show N - M = 1 by omega] at hj; simp [Value.cells] at hj; omega)]; rfl) (fun j _ => (Sv.own_at S3.out 0 rfl).free (M * 2 + j)) (zeros_one (z := (.agg #[.string ⟨#[]⟩, .string ⟨#[]⟩])) (by simp [Value.cells]; decide) (by decide) (N - M))
  rw [← hZs] at hcl
  clear hZs
  obtain ⟨w8, hw⟩ : ∃ u, u = World.setCells w4 g (M * 2) Zs := ⟨_, rfl⟩
  rw [← hw] at hcl
  have HW := Lib.hid hw
  have HRL := Lib.hid hRl
  clear hw hRl
  go_wp2_with fail
  have S4 := Lib.hid (show Sl.Sep W _ [Sv.ownV 73 2 (some ⟨g, 0, none⟩) c N ((ys.take i ++ ys.drop (i + 1)).flatMap cl_IndexDef ++ Zs), _] from (by have h := Run.put_run S3.out 0 rfl (M * 2) Zs (by rw [HZS.out]; exact HRL.out); rw [← HW.out, Run.over_at _ _ _ _ HAL.out (by rw [HZS.out, HXT.out]; exact Nat.le_refl _), show XT.drop Zs.length = [] from List.drop_of_length_le (by rw [HXT.out, HZS.out]; exact Nat.le_refl _), List.append_nil] at h; exact h))
  clear S3
  go_ret
  have S90 := Run.shorter S4.out 0 rfl M (by omega)
  rw [List.take_left' HAL.out] at S90
  have hM := HMM.out
  subst hM
  rw [HE.out]
  exact ⟨rfl, S90⟩
 ·
  skip
  go_enter Tryz.func115, Tryz.ntmps115
  go_upto_region 5 with fail
  refine wp_region_held_drew (S := (fun w' => True)) (by kernel_rfl) trivial (fun hS => ?_)
  have S2 := Lib.hid (Bag.drew1 S1.out)
  clear S1
  generalize World.drew _ = w1 at hS S2 ⊢
  refine tk 0 rfl ?_
  try simp only [zp0, zp1, zp2, zp3, zp4]
  refine tk 1 rfl ?_
  try simp only [zp0, zp1, zp2, zp3, zp4]
  refine tk 2 rfl ?_
  try simp only [zp0, zp1, zp2, zp3, zp4]
  refine tk 3 rfl ?_
  try simp only [zp0, zp1, zp2, zp3, zp4]
  refine tk 4 rfl ?_
  try simp only [zp0, zp1, zp2, zp3, zp4]
  refine tk 5 rfl ?_
  try simp only [zp0, zp1, zp2, zp3, zp4]
  refine Reg.one_op (i := 6) rfl (by kernel_rfl) (fun K hK => ?_)
  refine step_append_in S2.out 0 rfl rfl _ _ 31 (by rfl) i0 Tryz.underlying31 HI.out.1 HI.out.2.2.1 i c (by rfl) ⟨g, (i + 1) * 2, none⟩ (N - (i + 1)) (c - (i + 1)) (by rfl) w1.heap.size ((ys.drop (i + 1)).flatMap cl_IndexDef) (reads_drop cl_IndexDef_len (Sv.own_at S2.out 0 rfl).reads HIL.out) HD.out (by omega) (by rw [HD.out, HYL.out]; have := HIL.out; have := HN.out; omega) (one_flat cl_IndexDef_one _) ?_
  intro w4 S'
  obtain ⟨XT, hXT⟩ : ∃ u, u = (cl_IndexDef x ++ (ys.drop (i + 1)).flatMap cl_IndexDef).drop ((ys.drop (i + 1)).flatMap cl_IndexDef).length := ⟨_, rfl⟩
  have HXT := Lib.hid (show XT.length = 2 by rw [hXT, List.length_drop, List.length_append, cl_IndexDef_len]; omega)
  have S3 := Lib.hid (show Sl.Sep W _ [Sv.ownV 73 2 (some ⟨g, 0, none⟩) c N ((ys.take i ++ ys.drop (i + 1)).flatMap cl_IndexDef ++ XT), Run.restR W w g] from (by have h := S'; rw [HX.out, Run.over_at _ _ _ _ HTK.out (by rw [List.length_append]; omega), ← hXT] at h; rw [List.flatMap_append, List.append_assoc]; exact h))
  clear S2
  clear S' hXT
  refine hK.out _ _ trivial (fun hS => ?_)
  clear hK K
  try simp only [zp0, zp1, zp2, zp3, zp4]
  refine tk 7 rfl ?_
  try simp only [zp0, zp1, zp2, zp3, zp4]
  refine wpAnyH_done (by kernel_rfl) ?_ _
  have hn1 : i + (N - (i + 1)) = N - 1 := by omega
  obtain ⟨M, hM⟩ : ∃ u, u = N - 1 := ⟨_, rfl⟩
  rw [hn1, ← hM]
  have hMN : M + 1 = N := by omega
  clear hn1
  have HMM := Lib.hid hM
  clear hM
  have hcM : ¬ c = M := by omega
  have hMc : (M : Int) ≤ ((c : Nat) : Int) := by omega
  have hMN2 : (M : Int) ≤ ((N : Nat) : Int) := by omega
  have HAL := Lib.hid (show ((ys.take i ++ ys.drop (i + 1)).flatMap cl_IndexDef).length = M * 2 by rw [flat_len cl_IndexDef_len, List.length_append, take_len (by have := HIL.out; omega), List.length_drop]; have := HN.out; have := HMM.out; have := HIL.out; rw [show i + (ys.length - (i + 1)) = M by omega])
  obtain ⟨Zs, hZs⟩ : ∃ Z, Z = (Builtin.zeroCells (Value.agg #[.string ⟨#[]⟩, .string ⟨#[]⟩]).cells (N - M)).toList := ⟨_, rfl⟩
  have HZS := Lib.hid (show Zs.length = 2 by rw [hZs, Array.length_toList, size_zeroCells, show N - M = 1 by omega]; rfl)
  have hRl : M * 2 + 2 ≤ ((ys.take i ++ ys.drop (i + 1)).flatMap cl_IndexDef ++ XT).length := by rw [List.length_append, HAL.out, HXT.out]; omega
  have hcl := fun ty cc => Run.run_clear_rows (P := Tryz.prog) w4 31 73 ty i0 (.agg #[.string ⟨#[]⟩, .string ⟨#[]⟩]) g (M * 2) (N - M) cc Tryz.underlying31 HI.out.1 HI.out.2.1 (fun j hj => by rw [(Sv.own_at S3.out 0 rfl).cell (M * 2 + j) (by rw [show N - M = 1 by omega] at hj; simp [Value.cells] at hj; omega)]; rfl) (fun j _ => (Sv.own_at S3.out 0 rfl).free (M * 2 + j)) (zeros_one (z := (.agg #[.string ⟨#[]⟩, .string ⟨#[]⟩])) (by simp [Value.cells]; decide) (by decide) (N - M))
  rw [← hZs] at hcl
  clear hZs
  obtain ⟨w8, hw⟩ : ∃ u, u = World.setCells w4 g (M * 2) Zs := ⟨_, rfl⟩
  rw [← hw] at hcl
  have HW := Lib.hid hw
  have HRL := Lib.hid hRl
  clear hw hRl
  go_wp2_with fail
  have S4 := Lib.hid (show Sl.Sep W _ [Sv.ownV 73 2 (some ⟨g, 0, none⟩) c N ((ys.take i ++ ys.drop (i + 1)).flatMap cl_IndexDef ++ Zs), _] from (by have h := Run.put_run S3.out 0 rfl (M * 2) Zs (by rw [HZS.out]; exact HRL.out); rw [← HW.out, Run.over_at _ _ _ _ HAL.out (by rw [HZS.out, HXT.out]; exact Nat.le_refl _), show XT.drop Zs.length = [] from List.drop_of_length_le (by rw [HXT.out, HZS.out]; exact Nat.le_refl _), List.append_nil] at h; exact h))
  clear S3
  go_ret
  have S90 := Run.shorter S4.out 0 rfl M (by omega)
  rw [List.take_left' HAL.out] at S90
  have hM := HMM.out
  subst hM
  rw [HE.out]
  exact ⟨rfl, S90⟩
theorem delete_IndexDef {W w : World} {rs : List Res} (h : Sl.Sep W w rs) (q : Nat) {g c : Nat} {ys : List X_IndexDef} (hq : rs[q]? = some (Sv.ownV 73 2 (some ⟨g, 0, none⟩) c ys.length ((ys).flatMap cl_IndexDef))) (i : Nat) (hi : i < ys.length) (hl : ys.length ≤ 1048576) :
  Calls Tryz.prog 115 #[.slice (some ⟨g, 0, none⟩) ys.length c, .int .i64 i, .int .i64 ((i : Int) + 1)] w fun e w' => e = .returned (.slice (some ⟨g, 0, none⟩) (ys.length - 1) c) ∧ Sl.Sep W w' (rs.set q (Sv.ownV 73 2 (some ⟨g, 0, none⟩) c (ys.length - 1) ((ys.eraseIdx i).flatMap cl_IndexDef))) :=
 (delete_IndexDef_sep g c i ys hi hl W w (Run.rest_start h q hq)).mono fun _ _ ⟨he, hs⟩ => ⟨he, Run.rest_back h q hq hs⟩
end Go.Proofs.YthljdhfgphebnaaGreat.V

namespace Go.Proofs.YthljdhfgphebnaaGreat.L8
open V L6 L7
open L4 (K isK cmpK)
open L5 (F isR isN string_geq)
open Go.Op (bytesLess)
open Go.ChangeShapes Go.WideShapes Go.ChangeAt Go.RowKit Mem Sl Ex L2 Sv Bag
def GaveD (w : World) (d : X_Database) (e : Ending) (w' : World) : Prop :=
 ∃ y : Y_Database, e = .returned (vv_Database y) ∧ co_Database y = d ∧ BagOwn w' w.heap.size (rw_Database y) ∧ Below w.heap.size w w'
def GaveDB (w : World) (d : X_Database) (b : Bool) (e : Ending) (w' : World) : Prop :=
 ∃ y : Y_Database, e = .returned (.tuple #[vv_Database y, .bool b]) ∧ co_Database y = d ∧ BagOwn w' w.heap.size (rw_Database y) ∧ Below w.heap.size w w'
end Go.Proofs.YthljdhfgphebnaaGreat.L8

