/-
  What the law FnExactIsDatabase needs, laid by my program lawpack.py, part 3: the texts L8Sa, Vlg, VlStore, VlIndexDef, L5Cp, L6Ia, L4Im0, L5Ia, L5Ib, L4Im2, L4Im1, L4Im3, L4Arr, L4Im4, L6Ic, L6Iw, L7Ia, RegA, one behind the other; each begins with its own words.
-/
import Derived.Test.YtboefioalkjdaaaFnExactIsDatabaseP2
set_option linter.unusedSimpArgs false
/-
  The contracts of chapter 8's functions of the specification that only read, I: FindStore, l8Index, IsDatabase. Conditions: names of at most 2^48 bytes, at most 2^20 stores, indexes, items and fields. (Written by my program gen_l8a.py.)
-/
namespace Go.Proofs.Ytboefioalkjdaaa.L8
set_option maxRecDepth 100000
open V L6 L7
open L4 (K isK cmpK)
open L5 (F isR isN string_geq)
open Go.Op (bytesLess)
open Go.ChangeShapes Go.WideShapes Go.ChangeAt Go.RowKit Mem Sl Ex L2 Sv Bag
set_option linter.unusedVariables false
set_option linter.unusedSimpArgs false

theorem index_eq (a b : X_IndexDef) (w : World) :
    (Op.equalIn 10000 46 (.agg #[.string a.f_Store, .string a.f_Field]) (.agg #[.string b.f_Store, .string b.f_Field])).run Try.prog w = .ok (eqX a b) w := by
  unfold eqX
  cases h1 : a.f_Store.toList == b.f_Store.toList <;> cases h2 : a.f_Field.toList == b.f_Field.toList <;> simp [go_sem, h1, h2]
set_option maxHeartbeats 2000000 in
theorem specFindStore_any (z : Y_Database) (n : ByteArray) (hf : FitD (co_Database z)) (w : World) (hr : RowsRd w w.heap.size (rw_Database z)) :
    Calls Try.prog 12 #[vv_Database z, .string n] w fun e w' => e = .returned (.int .i64 (numO (fndS (co_Database z).f_Stores n))) ∧ Below w.heap.size w w' := by
  have HR : Hid (∀ w' (h : Below w.heap.size w w'), Reads w' w.heap.size z.f_Stores_a (z.f_Stores.flatMap cl_Store)) := Lib.hid (fun w' h => (rdS hr).below h)
  have HX : Hid (∀ w' (h : Below w.heap.size w w'), RowsRd w' w'.heap.size (rws_Store z.f_Stores)) := Lib.hid (fun w' h => ((rdX hr).below h).more h.size)
  have HU : Hid (∀ w' (h : Below w.heap.size w w'), Reads w' w.heap.size z.f_Unique_a (z.f_Unique.flatMap cl_IndexDef)) := Lib.hid (fun w' h => (rdU hr).below h)
  have HFD := Lib.hid hf
  have HFDl : z.f_Stores.length ≤ 1048576 := by have h := hf.len; rwa [co_len] at h
  have HFDm : z.f_Unique.length ≤ 1048576 := hf.many
  clear hf hr
  obtain ⟨name, ver, sa, sc, ss, ua, uc, us⟩ := z
  dsimp only [co_Database] at HR HX HU HFD HFDl HFDm
  try unfold vv_Database
  try unfold co_Database
  try dsimp only
  try rw [show coS_IndexDef us = us from rfl]
  rw [show coS_IndexDef us = us from rfl] at HFD
  obtain ⟨N, hN⟩ : ∃ n, n = ss.length := ⟨_, rfl⟩
  obtain ⟨M, hM⟩ : ∃ n, n = us.length := ⟨_, rfl⟩
  rw [← hN] at HFDl ⊢
  rw [← hM] at HFDm ⊢
  have HFDl' : (N : Int) ≤ 1048576 := by omega
  have HFDm' : (M : Int) ≤ 1048576 := by omega
  have HN := Lib.hid hN
  have HM := Lib.hid hM
  clear hN hM
  have S1 := Lib.hid (show Sl.Sep w (w.alloc (.cells #[.string name, .int .i64 ver, .slice sa N sc, .slice ua M uc] 31)) [L4.boxR w.heap.size 31 #[.string name, .int .i64 ver, .slice sa N sc, .slice ua M uc]] from L4.push_box (Sl.Sep.start w) 31 #[.string name, .int .i64 ver, .slice sa N sc, .slice ua M uc] (w.heap.size) (by simp))
  obtain ⟨wa, hwa⟩ : ∃ u, u = (w.alloc (.cells #[.string name, .int .i64 ver, .slice sa N sc, .slice ua M uc] 31)) := ⟨_, rfl⟩
  rw [← hwa] at S1
  go_enter Try.func12, Try.ntmps12
  go_upto_region 1 with fail
  rw [← hwa]
  clear hwa
  go_wp2_with fail
  go_loopw [5] (fun i wr => ∃ k : Nat, k ≤ N ∧ i = .int .i64 k ∧ Hid ((∀ j (hj : j < (coS_Store ss).length), j < k → hasN n (coS_Store ss)[j] = false) ∧ Sl.Sep w wr [L4.boxR w.heap.size 31 #[.string name, .int .i64 ver, .slice sa N sc, .slice ua M uc]])) (fun i _ => N - (intOf i).toNat)
  case atStart => exact ⟨0, Nat.zero_le _, rfl, And.intro (fun j hj h => absurd h (by omega)) S1.out⟩
  case round =>
    obtain ⟨k, hk, rfl, hrel⟩ := hrel
    have HA := Lib.hid hrel.out.1
    have S2 := Lib.hid hrel.out.2
    clear hrel S1
    by_cases hlt : (k : Int) < (N : Int)
    · skip
      have hkl : k < ss.length := by have := HN.out; omega
      obtain ⟨x, hx⟩ : ∃ x, ss[k]? = some x := ⟨_, List.getElem?_eq_getElem hkl⟩
      obtain ⟨sad, e'⟩ := el_some cl_Store_len (by decide) (HR.out _ S2.out.old) hkl
      subst e'
      have HKx := Lib.hid (fun w' (h : Below w.heap.size w w') => el3 cl_Store_len (HR.out _ h) hx rfl)
      have HRx := Lib.hid (fun w' (h : Below w.heap.size w w') => rd_store (HX.out w' h) hx)
      have HFx := Lib.hid (fit_store HFD.out.stores hx)
      have HCx := Lib.hid (coS_at hx)
      clear hx
      have hci : k < (coS_Store ss).length := by rw [coS_len]; exact hkl
      have HC := Lib.hid (show (coS_Store ss)[k] = x.con from (List.getElem?_eq_some_iff.1 HCx.out).2)
      obtain ⟨b, hb⟩ : ∃ b, (x.name.toList == n.toList) = b := ⟨_, rfl⟩
      have HB := Lib.hid (show hasN n (coS_Store ss)[k] = b from by rw [HC.out]; exact hb)
      have hh := Bag.cs4 S2.out 0 rfl
      have f0 := hh.1; have f1 := hh.2.1; have f2 := hh.2.2.1; have f3 := hh.2.2.2; clear hh
      have hh := HKx.out _ S2.out.old
      have f4 := hh.1; have f5 := hh.2.1; have f6 := hh.2.2; clear hh
      cases b with
      | true =>
        go_wp2_with fail
        go_ret
        exact ⟨by unfold fndS; rw [idx_at k hci HB.out HA.out]; rfl, S2.out.old⟩
      | false =>
        go_wp2_with fail
        go_roundw
        case rel => exact ⟨k + 1, by omega, by go_num, And.intro (fun j hj h => by
          by_cases e : j < k
          · exact HA.out j hj e
          · obtain rfl : j = k := by omega
            exact HB.out) S2.out⟩
        case measure => simp [intOf]; omega
    · skip
      have hh := Bag.cs4 S2.out 0 rfl
      have f0 := hh.1; have f1 := hh.2.1; have f2 := hh.2.2.1; have f3 := hh.2.2.2; clear hh
      obtain rfl : k = N := by omega
      go_wp2_with fail
      go_ret
      exact ⟨by unfold fndS; rw [idx_none (fun j hj => HA.out j hj (by have := HN.out; rw [coS_len] at hj; omega))]; rfl, S2.out.old⟩
set_option maxHeartbeats 16000000 in
theorem specIsDatabase_any (z : Y_Database) (hf : FitD (co_Database z)) (w : World) (hr : RowsRd w w.heap.size (rw_Database z)) :
    Calls Try.prog 8 #[vv_Database z] w fun e w' => e = .returned (.bool (isD (co_Database z))) ∧ Below w.heap.size w w' := by
  have HFS := Lib.hid (fun (n : ByteArray) w' (h : Below w.heap.size w w') => specFindStore_any z n hf w' ((hr.below h).more h.size))
  unfold vv_Database co_Database at HFS
  have HR : Hid (∀ w' (h : Below w.heap.size w w'), Reads w' w.heap.size z.f_Stores_a (z.f_Stores.flatMap cl_Store)) := Lib.hid (fun w' h => (rdS hr).below h)
  have HX : Hid (∀ w' (h : Below w.heap.size w w'), RowsRd w' w'.heap.size (rws_Store z.f_Stores)) := Lib.hid (fun w' h => ((rdX hr).below h).more h.size)
  have HU : Hid (∀ w' (h : Below w.heap.size w w'), Reads w' w.heap.size z.f_Unique_a (z.f_Unique.flatMap cl_IndexDef)) := Lib.hid (fun w' h => (rdU hr).below h)
  have HFD := Lib.hid hf
  have HFDl : z.f_Stores.length ≤ 1048576 := by have h := hf.len; rwa [co_len] at h
  have HFDm : z.f_Unique.length ≤ 1048576 := hf.many
  clear hf hr
  obtain ⟨name, ver, sa, sc, ss, ua, uc, us⟩ := z
  dsimp only [co_Database] at HR HX HU HFD HFDl HFDm
  try unfold vv_Database
  try unfold co_Database
  try dsimp only
  try rw [show coS_IndexDef us = us from rfl]
  rw [show coS_IndexDef us = us from rfl] at HFD
  obtain ⟨N, hN⟩ : ∃ n, n = ss.length := ⟨_, rfl⟩
  obtain ⟨M, hM⟩ : ∃ n, n = us.length := ⟨_, rfl⟩
  rw [← hN] at HFDl ⊢
  rw [← hM] at HFDm ⊢
  have HFDl' : (N : Int) ≤ 1048576 := by omega
  have HFDm' : (M : Int) ≤ 1048576 := by omega
  have HN := Lib.hid hN
  have HM := Lib.hid hM
  clear hN hM
  rw [← HN.out, ← HM.out] at HFS
  try dsimp only at HFS
  obtain ⟨B, hB⟩ : ∃ b, isD ⟨name, ver, coS_Store ss, us⟩ = b := ⟨_, rfl⟩
  have HB := Lib.hid hB
  rw [hB]
  clear hB
  have HSL := Lib.hid (show (coS_Store ss).length = N by rw [coS_len, HN.out])
  have S1 := Lib.hid (show Sl.Sep w (w.alloc (.cells #[.string name, .int .i64 ver, .slice sa N sc, .slice ua M uc] 31)) [L4.boxR w.heap.size 31 #[.string name, .int .i64 ver, .slice sa N sc, .slice ua M uc]] from L4.push_box (Sl.Sep.start w) 31 #[.string name, .int .i64 ver, .slice sa N sc, .slice ua M uc] (w.heap.size) (by simp))
  obtain ⟨wa, hwa⟩ : ∃ u, u = (w.alloc (.cells #[.string name, .int .i64 ver, .slice sa N sc, .slice ua M uc] 31)) := ⟨_, rfl⟩
  rw [← hwa] at S1
  go_enter Try.func8, Try.ntmps8
  go_upto_region 1 with fail
  rw [← hwa]
  clear hwa
  go_wp2_with fail
  go_loopw [3] (fun i wr => ∃ k : Nat, k ≤ N ∧ i = .int .i64 k ∧ Hid ((∀ j, j < k → okSx (coS_Store ss) j = true) ∧ Sl.Sep w wr [L4.boxR w.heap.size 31 #[.string name, .int .i64 ver, .slice sa N sc, .slice ua M uc]])) (fun i _ => N - (intOf i).toNat)
  case atStart => exact ⟨0, Nat.zero_le _, rfl, And.intro (fun j h => absurd h (by omega)) S1.out⟩
  case round =>
    obtain ⟨k, hk, rfl, hrel⟩ := hrel
    have HA := Lib.hid hrel.out.1
    have S2 := Lib.hid hrel.out.2
    clear hrel S1
    by_cases hlt : (k : Int) < (N : Int)
    · skip
      have hkl : k < ss.length := by have := HN.out; omega
      obtain ⟨x, hx⟩ : ∃ x, ss[k]? = some x := ⟨_, List.getElem?_eq_getElem hkl⟩
      obtain ⟨sad, e'⟩ := el_some cl_Store_len (by decide) (HR.out _ S2.out.old) hkl
      subst e'
      have HKx := Lib.hid (fun w' (h : Below w.heap.size w w') => el3 cl_Store_len (HR.out _ h) hx rfl)
      have HRx := Lib.hid (fun w' (h : Below w.heap.size w w') => rd_store (HX.out w' h) hx)
      have HFx := Lib.hid (fit_store HFD.out.stores hx)
      have HCx := Lib.hid (coS_at hx)
      clear hx
      obtain ⟨bk, hbk⟩ : ∃ b, isS x.con = b := ⟨_, rfl⟩
      have HIK := fun w' (h : Below w.heap.size w w') => specIsStore_any x HFx.out w' (HRx.out w' h)
      rw [hbk] at HIK
      dsimp only [LS.v, LS.cells] at HIK
      replace HIK := Lib.hid HIK
      have HBK := Lib.hid hbk
      clear hbk
      have hh := Bag.cs4 S2.out 0 rfl
      have f0 := hh.1; have f1 := hh.2.1; have f2 := hh.2.2.1; have f3 := hh.2.2.2; clear hh
      have hh := HKx.out _ S2.out.old
      have f4 := hh.1; have f5 := hh.2.1; have f6 := hh.2.2; clear hh
      cases bk with
      | false =>
        go_upto_region 4 with fail
        clear f0 f1 f2 f3 f4 f5 f6
        refine wp_region_held_drew (S := (fun w' => (World.cell? w' ⟨w.heap.size, 0, none⟩ = some (.string name) ∧ World.cell? w' ⟨w.heap.size, 1, none⟩ = some (.int .i64 ver) ∧ World.cell? w' ⟨w.heap.size, 2, none⟩ = some (.slice (some sad) N sc) ∧ World.cell? w' ⟨w.heap.size, 3, none⟩ = some (.slice ua M uc)) ∧ (World.cell? w' (sad.add (k * 3)) = some (.string x.name) ∧ World.cell? w' (⟨(sad.add (k * 3)).block, (sad.add (k * 3)).off + 1, none⟩) = some (.slice x.a x.xs.length x.c) ∧ World.cell? w' (⟨(sad.add (k * 3)).block, (sad.add (k * 3)).off + 2, none⟩) = some (.int .i64 x.auto)))) (by kernel_rfl) ⟨Bag.cs4 (Bag.drew1 S2.out) 0 rfl, HKx.out _ (Bag.drew1 S2.out).old⟩ (fun hS => ?_)
        have S3 := Lib.hid (show Sl.Sep w _ [L4.boxR w.heap.size 31 #[.string name, .int .i64 ver, .slice (some sad) N sc, .slice ua M uc]] from Bag.drew1 S2.out)
        clear S2
        generalize World.drew _ = w1 at hS S3 ⊢
        refine tk 0 rfl ?_
        try simp only [zp0, zp1, zp2, zp3, zp4]
        refine tk 1 rfl ?_
        try simp only [zp0, zp1, zp2, zp3, zp4]
        refine tk 2 rfl ?_
        try simp only [zp0, zp1, zp2, zp3, zp4]
        refine tk 3 rfl ?_
        try simp only [zp0, zp1, zp2, zp3, zp4]
        refine tk 4 rfl ?_
        try simp only [zp0, zp1, zp2, zp3, zp4]
        refine Reg.one_op (i := 5) rfl (by kernel_rfl) (fun K hK => ?_)
        go_simp
        go_at_call 20
        refine (HIK.out _ S3.out.old).mono ?_
        rintro e w2 ⟨rfl, hb⟩
        have S4 := Lib.hid (S3.out.keep hb)
        clear S3
        clear hb
        go_wp2_with fail
        refine hK.out _ _ ⟨Bag.cs4 S4.out 0 rfl, HKx.out _ S4.out.old⟩ (fun hS => ?_)
        clear hK K
        try simp only [zp0, zp1, zp2, zp3, zp4]
        refine tk 6 rfl ?_
        try simp only [zp0, zp1, zp2, zp3, zp4]
        refine tk 7 rfl ?_
        try simp only [zp0, zp1, zp2, zp3, zp4]
        refine sk 8 rfl ?_
        try simp only [zp0, zp1, zp2, zp3, zp4]
        refine sk 9 rfl ?_
        try simp only [zp0, zp1, zp2, zp3, zp4]
        refine sk 10 rfl ?_
        try simp only [zp0, zp1, zp2, zp3, zp4]
        refine sk 11 rfl ?_
        try simp only [zp0, zp1, zp2, zp3, zp4]
        refine sk 12 rfl ?_
        try simp only [zp0, zp1, zp2, zp3, zp4]
        refine sk 13 rfl ?_
        try simp only [zp0, zp1, zp2, zp3, zp4]
        refine sk 14 rfl ?_
        try simp only [zp0, zp1, zp2, zp3, zp4]
        refine sk 15 rfl ?_
        try simp only [zp0, zp1, zp2, zp3, zp4]
        refine sk 16 rfl ?_
        try simp only [zp0, zp1, zp2, zp3, zp4]
        refine sk 17 rfl ?_
        try simp only [zp0, zp1, zp2, zp3, zp4]
        refine sk 18 rfl ?_
        try simp only [zp0, zp1, zp2, zp3, zp4]
        refine sk 19 rfl ?_
        try simp only [zp0, zp1, zp2, zp3, zp4]
        refine sk 20 rfl ?_
        try simp only [zp0, zp1, zp2, zp3, zp4]
        refine sk 21 rfl ?_
        try simp only [zp0, zp1, zp2, zp3, zp4]
        refine sk 22 rfl ?_
        try simp only [zp0, zp1, zp2, zp3, zp4]
        refine sk 23 rfl ?_
        try simp only [zp0, zp1, zp2, zp3, zp4]
        refine sk 24 rfl ?_
        try simp only [zp0, zp1, zp2, zp3, zp4]
        refine sk 25 rfl ?_
        try simp only [zp0, zp1, zp2, zp3, zp4]
        refine tk 26 rfl ?_
        try simp only [zp0, zp1, zp2, zp3, zp4]
        refine wpAnyH_done (by kernel_rfl) ?_ _
        have hh := Bag.cs4 S4.out 0 rfl
        have f0 := hh.1; have f1 := hh.2.1; have f2 := hh.2.2.1; have f3 := hh.2.2.2; clear hh
        have hh := HKx.out _ S4.out.old
        have f4 := hh.1; have f5 := hh.2.1; have f6 := hh.2.2; clear hh
        have HNO := Lib.hid (show B = false from by rw [← HB.out]; unfold isD; dsimp only; rw [allTo_no k (by rw [HSL.out]; omega) (by rw [okSx_at HCx.out, HBK.out]; rfl)]; rfl)
        go_wp2_with fail
        go_ret
        exact ⟨by rw [HNO.out] <;> rfl, S4.out.old⟩
      | true =>
        rcases Nat.eq_zero_or_pos k with hk0 | hk0
        · have hk1 : (0 < k) = False := by simp; omega
          have HZ := Lib.hid hk0
          clear hk0
          go_upto_region 4 with fail
          clear f0 f1 f2 f3 f4 f5 f6
          refine wp_region_held_drew (S := (fun w' => (World.cell? w' ⟨w.heap.size, 0, none⟩ = some (.string name) ∧ World.cell? w' ⟨w.heap.size, 1, none⟩ = some (.int .i64 ver) ∧ World.cell? w' ⟨w.heap.size, 2, none⟩ = some (.slice (some sad) N sc) ∧ World.cell? w' ⟨w.heap.size, 3, none⟩ = some (.slice ua M uc)) ∧ (World.cell? w' (sad.add (k * 3)) = some (.string x.name) ∧ World.cell? w' (⟨(sad.add (k * 3)).block, (sad.add (k * 3)).off + 1, none⟩) = some (.slice x.a x.xs.length x.c) ∧ World.cell? w' (⟨(sad.add (k * 3)).block, (sad.add (k * 3)).off + 2, none⟩) = some (.int .i64 x.auto)))) (by kernel_rfl) ⟨Bag.cs4 (Bag.drew1 S2.out) 0 rfl, HKx.out _ (Bag.drew1 S2.out).old⟩ (fun hS => ?_)
          have S3 := Lib.hid (show Sl.Sep w _ [L4.boxR w.heap.size 31 #[.string name, .int .i64 ver, .slice (some sad) N sc, .slice ua M uc]] from Bag.drew1 S2.out)
          clear S2
          generalize World.drew _ = w1 at hS S3 ⊢
          refine tk 0 rfl ?_
          try simp only [zp0, zp1, zp2, zp3, zp4]
          refine tk 1 rfl ?_
          try simp only [zp0, zp1, zp2, zp3, zp4]
          refine tk 2 rfl ?_
          try simp only [zp0, zp1, zp2, zp3, zp4]
          refine tk 3 rfl ?_
          try simp only [zp0, zp1, zp2, zp3, zp4]
          refine tk 4 rfl ?_
          try simp only [zp0, zp1, zp2, zp3, zp4]
          refine Reg.one_op (i := 5) rfl (by kernel_rfl) (fun K hK => ?_)
          go_simp
          go_at_call 20
          refine (HIK.out _ S3.out.old).mono ?_
          rintro e w2 ⟨rfl, hb⟩
          have S4 := Lib.hid (S3.out.keep hb)
          clear S3
          clear hb
          go_wp2_with fail
          refine hK.out _ _ ⟨Bag.cs4 S4.out 0 rfl, HKx.out _ S4.out.old⟩ (fun hS => ?_)
          clear hK K
          try simp only [zp0, zp1, zp2, zp3, zp4]
          refine tk 6 rfl ?_
          try simp only [zp0, zp1, zp2, zp3, zp4]
          refine tk 7 rfl ?_
          try simp only [zp0, zp1, zp2, zp3, zp4]
          refine tk 8 rfl ?_
          try simp only [zp0, zp1, zp2, zp3, zp4]
          refine tk 9 rfl ?_
          try simp only [zp0, zp1, zp2, zp3, zp4]
          refine tk 10 rfl ?_
          try simp only [zp0, zp1, zp2, zp3, zp4]
          refine sk 11 rfl ?_
          try simp only [zp0, zp1, zp2, zp3, zp4]
          refine sk 12 rfl ?_
          try simp only [zp0, zp1, zp2, zp3, zp4]
          refine sk 13 rfl ?_
          try simp only [zp0, zp1, zp2, zp3, zp4]
          refine sk 14 rfl ?_
          try simp only [zp0, zp1, zp2, zp3, zp4]
          refine sk 15 rfl ?_
          try simp only [zp0, zp1, zp2, zp3, zp4]
          refine sk 16 rfl ?_
          try simp only [zp0, zp1, zp2, zp3, zp4]
          refine sk 17 rfl ?_
          try simp only [zp0, zp1, zp2, zp3, zp4]
          refine sk 18 rfl ?_
          try simp only [zp0, zp1, zp2, zp3, zp4]
          refine sk 19 rfl ?_
          try simp only [zp0, zp1, zp2, zp3, zp4]
          refine sk 20 rfl ?_
          try simp only [zp0, zp1, zp2, zp3, zp4]
          refine sk 21 rfl ?_
          try simp only [zp0, zp1, zp2, zp3, zp4]
          refine sk 22 rfl ?_
          try simp only [zp0, zp1, zp2, zp3, zp4]
          refine sk 23 rfl ?_
          try simp only [zp0, zp1, zp2, zp3, zp4]
          refine sk 24 rfl ?_
          try simp only [zp0, zp1, zp2, zp3, zp4]
          refine tk 25 rfl ?_
          try simp only [zp0, zp1, zp2, zp3, zp4]
          refine tk 26 rfl ?_
          try simp only [zp0, zp1, zp2, zp3, zp4]
          refine wpAnyH_done (by kernel_rfl) ?_ _
          have hh := Bag.cs4 S4.out 0 rfl
          have f0 := hh.1; have f1 := hh.2.1; have f2 := hh.2.2.1; have f3 := hh.2.2.2; clear hh
          have hh := HKx.out _ S4.out.old
          have f4 := hh.1; have f5 := hh.2.1; have f6 := hh.2.2; clear hh
          go_wp2_with fail
          go_roundw
          case rel => exact ⟨k + 1, by omega, by go_num, And.intro (fun j h => by
            by_cases e : j < k
            · exact HA.out j e
            · obtain rfl : j = k := by omega
              rw [okSx_at HCx.out, HBK.out, HZ.out]; rfl) S4.out⟩
          case measure => simp [intOf]; omega
        · obtain ⟨m, hkm⟩ : ∃ m, k = m + 1 := ⟨k - 1, by omega⟩
          have hki : (k : Int) - 1 = (m : Int) := by omega
          have HKM := Lib.hid hkm
          have hm0 : m < ss.length := by omega
          have hmi : (m : Int) < (N : Int) := by omega
          have hmw : IntKind.i64.wrap (m : Int) = (m : Int) := IntWalk.i64_in _ ⟨by omega, by omega⟩
          clear hkm
          clear f0 f1 f2 f3 f4 f5 f6
          obtain ⟨y, hy⟩ : ∃ x, ss[m]? = some x := ⟨_, List.getElem?_eq_getElem hm0⟩
          have HKy := Lib.hid (fun w' (h : Below w.heap.size w w') => el3 cl_Store_len (HR.out _ h) hy rfl)
          have HRy := Lib.hid (fun w' (h : Below w.heap.size w w') => rd_store (HX.out w' h) hy)
          have HFy := Lib.hid (fit_store HFD.out.stores hy)
          have HCy := Lib.hid (coS_at hy)
          clear hy
          have hge := string_geq
          cases hc : bytesLess y.name.toList x.name.toList with
          | false =>
            have hh := Bag.cs4 S2.out 0 rfl
            have f0 := hh.1; have f1 := hh.2.1; have f2 := hh.2.2.1; have f3 := hh.2.2.2; clear hh
            have hh := HKx.out _ S2.out.old
            have f4 := hh.1; have f5 := hh.2.1; have f6 := hh.2.2; clear hh
            have hh := HKy.out _ S2.out.old
            have f7 := hh.1; have f8 := hh.2.1; have f9 := hh.2.2; clear hh
            go_upto_region 4 with fail
            clear f0 f1 f2 f3 f4 f5 f6 f7 f8 f9
            refine wp_region_held_drew (S := (fun w' => (World.cell? w' ⟨w.heap.size, 0, none⟩ = some (.string name) ∧ World.cell? w' ⟨w.heap.size, 1, none⟩ = some (.int .i64 ver) ∧ World.cell? w' ⟨w.heap.size, 2, none⟩ = some (.slice (some sad) N sc) ∧ World.cell? w' ⟨w.heap.size, 3, none⟩ = some (.slice ua M uc)) ∧ (World.cell? w' (sad.add (k * 3)) = some (.string x.name) ∧ World.cell? w' (⟨(sad.add (k * 3)).block, (sad.add (k * 3)).off + 1, none⟩) = some (.slice x.a x.xs.length x.c) ∧ World.cell? w' (⟨(sad.add (k * 3)).block, (sad.add (k * 3)).off + 2, none⟩) = some (.int .i64 x.auto)) ∧ (World.cell? w' (sad.add (m * 3)) = some (.string y.name) ∧ World.cell? w' (⟨(sad.add (m * 3)).block, (sad.add (m * 3)).off + 1, none⟩) = some (.slice y.a y.xs.length y.c) ∧ World.cell? w' (⟨(sad.add (m * 3)).block, (sad.add (m * 3)).off + 2, none⟩) = some (.int .i64 y.auto)))) (by kernel_rfl) ⟨Bag.cs4 (Bag.drew1 S2.out) 0 rfl, HKx.out _ (Bag.drew1 S2.out).old, HKy.out _ (Bag.drew1 S2.out).old⟩ (fun hS => ?_)
            have S3 := Lib.hid (show Sl.Sep w _ [L4.boxR w.heap.size 31 #[.string name, .int .i64 ver, .slice (some sad) N sc, .slice ua M uc]] from Bag.drew1 S2.out)
            clear S2
            generalize World.drew _ = w1 at hS S3 ⊢
            refine tk 0 rfl ?_
            try simp only [zp0, zp1, zp2, zp3, zp4]
            refine tk 1 rfl ?_
            try simp only [zp0, zp1, zp2, zp3, zp4]
            refine tk 2 rfl ?_
            try simp only [zp0, zp1, zp2, zp3, zp4]
            refine tk 3 rfl ?_
            try simp only [zp0, zp1, zp2, zp3, zp4]
            refine tk 4 rfl ?_
            try simp only [zp0, zp1, zp2, zp3, zp4]
            refine Reg.one_op (i := 5) rfl (by kernel_rfl) (fun K hK => ?_)
            go_simp
            go_at_call 20
            refine (HIK.out _ S3.out.old).mono ?_
            rintro e w2 ⟨rfl, hb⟩
            have S4 := Lib.hid (S3.out.keep hb)
            clear S3
            clear hb
            go_wp2_with fail
            refine hK.out _ _ ⟨Bag.cs4 S4.out 0 rfl, HKx.out _ S4.out.old, HKy.out _ S4.out.old⟩ (fun hS => ?_)
            clear hK K
            try simp only [zp0, zp1, zp2, zp3, zp4]
            refine tk 6 rfl ?_
            try simp only [zp0, zp1, zp2, zp3, zp4]
            refine tk 7 rfl ?_
            try simp only [zp0, zp1, zp2, zp3, zp4]
            refine tk 8 rfl ?_
            try simp only [zp0, zp1, zp2, zp3, zp4]
            refine tk 9 rfl ?_
            try simp only [zp0, zp1, zp2, zp3, zp4]
            refine tk 10 rfl ?_
            try simp only [zp0, zp1, zp2, zp3, zp4]
            refine tk 11 rfl ?_
            try simp only [zp0, zp1, zp2, zp3, zp4]
            refine tk 12 rfl ?_
            try simp only [zp0, zp1, zp2, zp3, zp4]
            refine tk 13 rfl ?_
            try simp only [zp0, zp1, zp2, zp3, zp4]
            refine tk 14 rfl ?_
            try simp only [zp0, zp1, zp2, zp3, zp4]
            refine tk 15 rfl ?_
            try simp only [zp0, zp1, zp2, zp3, zp4]
            refine tk 16 rfl ?_
            try simp only [zp0, zp1, zp2, zp3, zp4]
            refine tk 17 rfl ?_
            try simp only [zp0, zp1, zp2, zp3, zp4]
            refine tk 18 rfl ?_
            try simp only [zp0, zp1, zp2, zp3, zp4]
            refine tk 19 rfl ?_
            try simp only [zp0, zp1, zp2, zp3, zp4]
            refine tk 20 rfl ?_
            try simp only [zp0, zp1, zp2, zp3, zp4]
            refine tk 21 rfl ?_
            try simp only [zp0, zp1, zp2, zp3, zp4]
            refine tk 22 rfl ?_
            try simp only [zp0, zp1, zp2, zp3, zp4]
            refine tk 23 rfl ?_
            try simp only [zp0, zp1, zp2, zp3, zp4]
            refine tk 24 rfl ?_
            try simp only [zp0, zp1, zp2, zp3, zp4]
            refine tk 25 rfl ?_
            try simp only [zp0, zp1, zp2, zp3, zp4]
            refine tk 26 rfl ?_
            try simp only [zp0, zp1, zp2, zp3, zp4]
            refine wpAnyH_done (by kernel_rfl) ?_ _
            have hh := Bag.cs4 S4.out 0 rfl
            have f0 := hh.1; have f1 := hh.2.1; have f2 := hh.2.2.1; have f3 := hh.2.2.2; clear hh
            have hh := HKx.out _ S4.out.old
            have f4 := hh.1; have f5 := hh.2.1; have f6 := hh.2.2; clear hh
            have hh := HKy.out _ S4.out.old
            have f7 := hh.1; have f8 := hh.2.1; have f9 := hh.2.2; clear hh
            have HNO := Lib.hid (show B = false from by rw [← HB.out]; unfold isD; dsimp only; rw [allTo_no k (by rw [HSL.out]; omega) (by rw [okSx_at HCx.out, HBK.out, HKM.out, ahead8_at HCy.out]; exact hc)]; rfl)
            go_wp2_with fail
            go_ret
            exact ⟨by rw [HNO.out] <;> rfl, S4.out.old⟩
          | true =>
            have hh := Bag.cs4 S2.out 0 rfl
            have f0 := hh.1; have f1 := hh.2.1; have f2 := hh.2.2.1; have f3 := hh.2.2.2; clear hh
            have hh := HKx.out _ S2.out.old
            have f4 := hh.1; have f5 := hh.2.1; have f6 := hh.2.2; clear hh
            have hh := HKy.out _ S2.out.old
            have f7 := hh.1; have f8 := hh.2.1; have f9 := hh.2.2; clear hh
            go_upto_region 4 with fail
            clear f0 f1 f2 f3 f4 f5 f6 f7 f8 f9
            refine wp_region_held_drew (S := (fun w' => (World.cell? w' ⟨w.heap.size, 0, none⟩ = some (.string name) ∧ World.cell? w' ⟨w.heap.size, 1, none⟩ = some (.int .i64 ver) ∧ World.cell? w' ⟨w.heap.size, 2, none⟩ = some (.slice (some sad) N sc) ∧ World.cell? w' ⟨w.heap.size, 3, none⟩ = some (.slice ua M uc)) ∧ (World.cell? w' (sad.add (k * 3)) = some (.string x.name) ∧ World.cell? w' (⟨(sad.add (k * 3)).block, (sad.add (k * 3)).off + 1, none⟩) = some (.slice x.a x.xs.length x.c) ∧ World.cell? w' (⟨(sad.add (k * 3)).block, (sad.add (k * 3)).off + 2, none⟩) = some (.int .i64 x.auto)) ∧ (World.cell? w' (sad.add (m * 3)) = some (.string y.name) ∧ World.cell? w' (⟨(sad.add (m * 3)).block, (sad.add (m * 3)).off + 1, none⟩) = some (.slice y.a y.xs.length y.c) ∧ World.cell? w' (⟨(sad.add (m * 3)).block, (sad.add (m * 3)).off + 2, none⟩) = some (.int .i64 y.auto)))) (by kernel_rfl) ⟨Bag.cs4 (Bag.drew1 S2.out) 0 rfl, HKx.out _ (Bag.drew1 S2.out).old, HKy.out _ (Bag.drew1 S2.out).old⟩ (fun hS => ?_)
            have S3 := Lib.hid (show Sl.Sep w _ [L4.boxR w.heap.size 31 #[.string name, .int .i64 ver, .slice (some sad) N sc, .slice ua M uc]] from Bag.drew1 S2.out)
            clear S2
            generalize World.drew _ = w1 at hS S3 ⊢
            refine tk 0 rfl ?_
            try simp only [zp0, zp1, zp2, zp3, zp4]
            refine tk 1 rfl ?_
            try simp only [zp0, zp1, zp2, zp3, zp4]
            refine tk 2 rfl ?_
            try simp only [zp0, zp1, zp2, zp3, zp4]
            refine tk 3 rfl ?_
            try simp only [zp0, zp1, zp2, zp3, zp4]
            refine tk 4 rfl ?_
            try simp only [zp0, zp1, zp2, zp3, zp4]
            refine Reg.one_op (i := 5) rfl (by kernel_rfl) (fun K hK => ?_)
            go_simp
            go_at_call 20
            refine (HIK.out _ S3.out.old).mono ?_
            rintro e w2 ⟨rfl, hb⟩
            have S4 := Lib.hid (S3.out.keep hb)
            clear S3
            clear hb
            go_wp2_with fail
            refine hK.out _ _ ⟨Bag.cs4 S4.out 0 rfl, HKx.out _ S4.out.old, HKy.out _ S4.out.old⟩ (fun hS => ?_)
            clear hK K
            try simp only [zp0, zp1, zp2, zp3, zp4]
            refine tk 6 rfl ?_
            try simp only [zp0, zp1, zp2, zp3, zp4]
            refine tk 7 rfl ?_
            try simp only [zp0, zp1, zp2, zp3, zp4]
            refine tk 8 rfl ?_
            try simp only [zp0, zp1, zp2, zp3, zp4]
            refine tk 9 rfl ?_
            try simp only [zp0, zp1, zp2, zp3, zp4]
            refine tk 10 rfl ?_
            try simp only [zp0, zp1, zp2, zp3, zp4]
            refine tk 11 rfl ?_
            try simp only [zp0, zp1, zp2, zp3, zp4]
            refine tk 12 rfl ?_
            try simp only [zp0, zp1, zp2, zp3, zp4]
            refine tk 13 rfl ?_
            try simp only [zp0, zp1, zp2, zp3, zp4]
            refine tk 14 rfl ?_
            try simp only [zp0, zp1, zp2, zp3, zp4]
            refine tk 15 rfl ?_
            try simp only [zp0, zp1, zp2, zp3, zp4]
            refine tk 16 rfl ?_
            try simp only [zp0, zp1, zp2, zp3, zp4]
            refine tk 17 rfl ?_
            try simp only [zp0, zp1, zp2, zp3, zp4]
            refine tk 18 rfl ?_
            try simp only [zp0, zp1, zp2, zp3, zp4]
            refine tk 19 rfl ?_
            try simp only [zp0, zp1, zp2, zp3, zp4]
            refine tk 20 rfl ?_
            try simp only [zp0, zp1, zp2, zp3, zp4]
            refine tk 21 rfl ?_
            try simp only [zp0, zp1, zp2, zp3, zp4]
            refine tk 22 rfl ?_
            try simp only [zp0, zp1, zp2, zp3, zp4]
            refine tk 23 rfl ?_
            try simp only [zp0, zp1, zp2, zp3, zp4]
            refine tk 24 rfl ?_
            try simp only [zp0, zp1, zp2, zp3, zp4]
            refine tk 25 rfl ?_
            try simp only [zp0, zp1, zp2, zp3, zp4]
            refine tk 26 rfl ?_
            try simp only [zp0, zp1, zp2, zp3, zp4]
            refine wpAnyH_done (by kernel_rfl) ?_ _
            have hh := Bag.cs4 S4.out 0 rfl
            have f0 := hh.1; have f1 := hh.2.1; have f2 := hh.2.2.1; have f3 := hh.2.2.2; clear hh
            have hh := HKx.out _ S4.out.old
            have f4 := hh.1; have f5 := hh.2.1; have f6 := hh.2.2; clear hh
            have hh := HKy.out _ S4.out.old
            have f7 := hh.1; have f8 := hh.2.1; have f9 := hh.2.2; clear hh
            go_wp2_with fail
            go_roundw
            case rel => exact ⟨k + 1, by omega, by go_num, And.intro (fun j h => by
              by_cases e : j < k
              · exact HA.out j e
              · obtain rfl : j = k := by omega
                rw [okSx_at HCx.out, HBK.out, HKM.out, ahead8_at HCy.out]; exact hc) S4.out⟩
            case measure => simp [intOf]; omega
    · skip
      obtain rfl : k = N := by omega
      have HS1 := Lib.hid (show allTo (okSx (coS_Store ss)) (coS_Store ss).length = true from allTo_all (fun i hi => HA.out i (by rw [HSL.out] at hi; exact hi)))
      clear HA
      have hh := Bag.cs4 S2.out 0 rfl
      have f0 := hh.1; have f1 := hh.2.1; have f2 := hh.2.2.1; have f3 := hh.2.2.2; clear hh
      go_wp2_with fail
      clear f0 f1 f2 f3
      go_loopw [4] (fun i wr => ∃ j : Nat, j ≤ M ∧ i = .int .i64 j ∧ Hid ((∀ q, q < j → okUx (coS_Store ss) us q = true) ∧ Sl.Sep w wr [L4.boxR w.heap.size 31 #[.string name, .int .i64 ver, .slice sa k sc, .slice ua M uc]])) (fun i _ => M - (intOf i).toNat)
      case atStart => exact ⟨0, Nat.zero_le _, rfl, And.intro (fun j h => absurd h (by omega)) S2.out⟩
      case round =>
        obtain ⟨j, hj, rfl, hrel⟩ := hrel
        have HA := Lib.hid hrel.out.1
        have S3 := Lib.hid hrel.out.2
        clear hrel S2
        by_cases hlt2 : (j : Int) < (M : Int)
        · skip
          have hjl : j < us.length := by have := HM.out; omega
          obtain ⟨u, hu⟩ : ∃ x, us[j]? = some x := ⟨_, List.getElem?_eq_getElem hjl⟩
          obtain ⟨uad, e'⟩ := el_some cl_IndexDef_len (by decide) (HU.out _ S3.out.old) hjl
          subst e'
          have HKu := Lib.hid (fun w' (h : Below w.heap.size w w') => el2 cl_IndexDef_len (HU.out _ h) hu rfl)
          have HFu := Lib.hid (HFD.out.unique _ (List.mem_of_getElem? hu))
          have HCu := Lib.hid hu
          clear hu
          have HFI := fun w' (h : Below w.heap.size w w') => HFS.out u.f_Store w' h
          cases hfo : fndS (coS_Store ss) u.f_Store with
          | none =>
            rw [hfo] at HFI
            dsimp only [numO] at HFI
            replace HFI := Lib.hid HFI
            have HFO := Lib.hid hfo
            clear hfo
            have hh := Bag.cs4 S3.out 0 rfl
            have f0 := hh.1; have f1 := hh.2.1; have f2 := hh.2.2.1; have f3 := hh.2.2.2; clear hh
            have hh := HKu.out _ S3.out.old
            have f4 := hh.1; have f5 := hh.2; clear hh
            go_upto_region 9 with fail
            clear f0 f1 f2 f3 f4 f5
            refine wp_region_held_drew (S := (fun w' => (World.cell? w' ⟨w.heap.size, 0, none⟩ = some (.string name) ∧ World.cell? w' ⟨w.heap.size, 1, none⟩ = some (.int .i64 ver) ∧ World.cell? w' ⟨w.heap.size, 2, none⟩ = some (.slice sa k sc) ∧ World.cell? w' ⟨w.heap.size, 3, none⟩ = some (.slice (some uad) M uc)) ∧ (World.cell? w' (uad.add (j * 2)) = some (.string u.f_Store) ∧ World.cell? w' (⟨(uad.add (j * 2)).block, (uad.add (j * 2)).off + 1, none⟩) = some (.string u.f_Field)))) (by kernel_rfl) ⟨Bag.cs4 (Bag.drew1 S3.out) 0 rfl, HKu.out _ (Bag.drew1 S3.out).old⟩ (fun hS => ?_)
            have S4 := Lib.hid (show Sl.Sep w _ [L4.boxR w.heap.size 31 #[.string name, .int .i64 ver, .slice sa k sc, .slice (some uad) M uc]] from Bag.drew1 S3.out)
            clear S3
            generalize World.drew _ = w1 at hS S4 ⊢
            refine tk 0 rfl ?_
            try simp only [zp0, zp1, zp2, zp3, zp4]
            refine tk 1 rfl ?_
            try simp only [zp0, zp1, zp2, zp3, zp4]
            refine tk 2 rfl ?_
            try simp only [zp0, zp1, zp2, zp3, zp4]
            refine tk 3 rfl ?_
            try simp only [zp0, zp1, zp2, zp3, zp4]
            refine tk 4 rfl ?_
            try simp only [zp0, zp1, zp2, zp3, zp4]
            refine tk 5 rfl ?_
            try simp only [zp0, zp1, zp2, zp3, zp4]
            refine tk 6 rfl ?_
            try simp only [zp0, zp1, zp2, zp3, zp4]
            refine Reg.one_op (i := 7) rfl (by kernel_rfl) (fun K hK => ?_)
            go_simp
            go_at_call 12
            refine (HFI.out _ S4.out.old).mono ?_
            rintro e w2 ⟨rfl, hb⟩
            have S5 := Lib.hid (S4.out.keep hb)
            clear S4
            clear hb
            go_wp2_with fail
            refine hK.out _ _ ⟨Bag.cs4 S5.out 0 rfl, HKu.out _ S5.out.old⟩ (fun hS => ?_)
            clear hK K
            try simp only [zp0, zp1, zp2, zp3, zp4]
            refine tk 8 rfl ?_
            try simp only [zp0, zp1, zp2, zp3, zp4]
            refine wpAnyH_done (by kernel_rfl) ?_ _
            have hh := Bag.cs4 S5.out 0 rfl
            have f0 := hh.1; have f1 := hh.2.1; have f2 := hh.2.2.1; have f3 := hh.2.2.2; clear hh
            have hh := HKu.out _ S5.out.old
            have f4 := hh.1; have f5 := hh.2; clear hh
            have HNO := Lib.hid (show B = false from by rw [← HB.out]; unfold isD; dsimp only; rw [HS1.out, allTo_no j hjl (by rw [okUx_at HCu.out, show keptX (coS_Store ss) u = false from by unfold keptX; rw [HFO.out]]; rfl)]; rfl)
            go_wp2_with fail
            go_ret
            exact ⟨by rw [HNO.out] <;> rfl, S5.out.old⟩
          | some i =>
            have hil : i < ss.length := by obtain ⟨h1, _⟩ := idx_some hfo; rw [coS_len] at h1; exact h1
            have hiN : (i : Int) < (k : Int) := by have := HN.out; omega
            rw [hfo] at HFI
            dsimp only [numO] at HFI
            replace HFI := Lib.hid HFI
            have HFO := Lib.hid hfo
            clear hfo
            have hh := Bag.cs4 S3.out 0 rfl
            have f0 := hh.1; have f1 := hh.2.1; have f2 := hh.2.2.1; have f3 := hh.2.2.2; clear hh
            have hh := HKu.out _ S3.out.old
            have f4 := hh.1; have f5 := hh.2; clear hh
            go_upto_region 9 with fail
            clear f0 f1 f2 f3 f4 f5
            refine wp_region_held_drew (S := (fun w' => (World.cell? w' ⟨w.heap.size, 0, none⟩ = some (.string name) ∧ World.cell? w' ⟨w.heap.size, 1, none⟩ = some (.int .i64 ver) ∧ World.cell? w' ⟨w.heap.size, 2, none⟩ = some (.slice sa k sc) ∧ World.cell? w' ⟨w.heap.size, 3, none⟩ = some (.slice (some uad) M uc)) ∧ (World.cell? w' (uad.add (j * 2)) = some (.string u.f_Store) ∧ World.cell? w' (⟨(uad.add (j * 2)).block, (uad.add (j * 2)).off + 1, none⟩) = some (.string u.f_Field)))) (by kernel_rfl) ⟨Bag.cs4 (Bag.drew1 S3.out) 0 rfl, HKu.out _ (Bag.drew1 S3.out).old⟩ (fun hS => ?_)
            have S4 := Lib.hid (show Sl.Sep w _ [L4.boxR w.heap.size 31 #[.string name, .int .i64 ver, .slice sa k sc, .slice (some uad) M uc]] from Bag.drew1 S3.out)
            clear S3
            generalize World.drew _ = w1 at hS S4 ⊢
            refine tk 0 rfl ?_
            try simp only [zp0, zp1, zp2, zp3, zp4]
            refine tk 1 rfl ?_
            try simp only [zp0, zp1, zp2, zp3, zp4]
            refine tk 2 rfl ?_
            try simp only [zp0, zp1, zp2, zp3, zp4]
            refine tk 3 rfl ?_
            try simp only [zp0, zp1, zp2, zp3, zp4]
            refine tk 4 rfl ?_
            try simp only [zp0, zp1, zp2, zp3, zp4]
            refine tk 5 rfl ?_
            try simp only [zp0, zp1, zp2, zp3, zp4]
            refine tk 6 rfl ?_
            try simp only [zp0, zp1, zp2, zp3, zp4]
            refine Reg.one_op (i := 7) rfl (by kernel_rfl) (fun K hK => ?_)
            go_simp
            go_at_call 12
            refine (HFI.out _ S4.out.old).mono ?_
            rintro e w2 ⟨rfl, hb⟩
            have S5 := Lib.hid (S4.out.keep hb)
            clear S4
            clear hb
            go_wp2_with fail
            refine hK.out _ _ ⟨Bag.cs4 S5.out 0 rfl, HKu.out _ S5.out.old⟩ (fun hS => ?_)
            clear hK K
            try simp only [zp0, zp1, zp2, zp3, zp4]
            refine tk 8 rfl ?_
            try simp only [zp0, zp1, zp2, zp3, zp4]
            refine wpAnyH_done (by kernel_rfl) ?_ _
            have hh := Bag.cs4 S5.out 0 rfl
            have f0 := hh.1; have f1 := hh.2.1; have f2 := hh.2.2.1; have f3 := hh.2.2.2; clear hh
            have hh := HKu.out _ S5.out.old
            have f4 := hh.1; have f5 := hh.2; clear hh
            clear f0 f1 f2 f3 f4 f5
            obtain ⟨bn, hbn⟩ : ∃ b, isN u.f_Field.data.toList = b := ⟨_, rfl⟩
            have HIN := fun w => L5.specIsName_any u.f_Field HFu.out.field w
            rw [hbn] at HIN
            replace HIN := Lib.hid HIN
            have HBN := Lib.hid hbn
            clear hbn
            have hh := Bag.cs4 S5.out 0 rfl
            have f0 := hh.1; have f1 := hh.2.1; have f2 := hh.2.2.1; have f3 := hh.2.2.2; clear hh
            have hh := HKu.out _ S5.out.old
            have f4 := hh.1; have f5 := hh.2; clear hh
            cases bn with
            | false =>
              go_wp2_with fail
              go_at_call 21
              refine (HIN.out _).mono ?_
              rintro e w3 ⟨rfl, rfl⟩
              have HNO := Lib.hid (show B = false from by rw [← HB.out]; unfold isD; dsimp only; rw [HS1.out, allTo_no j hjl (by rw [okUx_at HCu.out, show keptX (coS_Store ss) u = false from by unfold keptX; rw [HFO.out]; dsimp only; rw [HBN.out]; rfl]; rfl)]; rfl)
              go_wp2_with fail
              go_ret
              exact ⟨by rw [HNO.out] <;> rfl, S5.out.old⟩
            | true =>
              go_wp2_with fail
              go_at_call 21
              refine (HIN.out _).mono ?_
              rintro e w3 ⟨rfl, rfl⟩
              clear f0 f1 f2 f3 f4 f5
              obtain ⟨x, hx⟩ : ∃ x, ss[i]? = some x := ⟨_, List.getElem?_eq_getElem hil⟩
              obtain ⟨sad, e'⟩ := el_some cl_Store_len (by decide) (HR.out _ S5.out.old) hil
              subst e'
              have HKx := Lib.hid (fun w' (h : Below w.heap.size w w') => el3 cl_Store_len (HR.out _ h) hx rfl)
              have HRx := Lib.hid (fun w' (h : Below w.heap.size w w') => rd_store (HX.out w' h) hx)
              have HFx := Lib.hid (fit_store HFD.out.stores hx)
              have HCx := Lib.hid (coS_at hx)
              clear hx
              obtain ⟨bu, hbu⟩ : ∃ b, ufB u.f_Field.data.toList (idxI x.con.items u.f_Field.data.toList) = b := ⟨_, rfl⟩
              obtain ⟨KA, hKA⟩ : ∃ b, ufA u.f_Field.data.toList (idxI x.con.items u.f_Field.data.toList) = b := ⟨_, rfl⟩
              obtain ⟨KZ, hKZ⟩ : ∃ b, ufZ u.f_Field.data.toList (idxI x.con.items u.f_Field.data.toList) = b := ⟨_, rfl⟩
              have HUF := fun w' (h : Below w.heap.size w w') => specUniqueFault_any x u.f_Field HFx.out w' (HRx.out w' h)
              rw [hbu, hKA, hKZ] at HUF
              dsimp only [LS.v, LS.cells, K.v] at HUF
              replace HUF := Lib.hid HUF
              have HBX := Lib.hid (show badX (coS_Store ss) i u.f_Field = bu from by unfold badX; rw [HCx.out]; exact hbu)
              clear hbu hKA hKZ
              have HKP := Lib.hid (show keptX (coS_Store ss) u = !bu from by unfold keptX; rw [HFO.out]; dsimp only; rw [HBN.out, HBX.out]; cases bu <;> rfl)
              skip
              go_upto_region 12 with fail
              go_cut [8] (fun z wx => z = .bool bu ∧ Hid (Sl.Sep w wx [L4.boxR w.heap.size 31 #[.string name, .int .i64 ver, .slice (some sad) k sc, .slice (some uad) M uc]]))
              case first =>
                have hh := Bag.cs4 S5.out 0 rfl
                have f0 := hh.1; have f1 := hh.2.1; have f2 := hh.2.2.1; have f3 := hh.2.2.2; clear hh
                have hh := HKu.out _ S5.out.old
                have f4 := hh.1; have f5 := hh.2; clear hh
                have hh := HKx.out _ S5.out.old
                have f6 := hh.1; have f7 := hh.2.1; have f8 := hh.2.2; clear hh
                clear f0 f1 f2 f3 f4 f5 f6 f7 f8
                refine wp_region_held_drew (S := (fun w' => (World.cell? w' ⟨w.heap.size, 0, none⟩ = some (.string name) ∧ World.cell? w' ⟨w.heap.size, 1, none⟩ = some (.int .i64 ver) ∧ World.cell? w' ⟨w.heap.size, 2, none⟩ = some (.slice (some sad) k sc) ∧ World.cell? w' ⟨w.heap.size, 3, none⟩ = some (.slice (some uad) M uc)) ∧ (World.cell? w' (uad.add (j * 2)) = some (.string u.f_Store) ∧ World.cell? w' (⟨(uad.add (j * 2)).block, (uad.add (j * 2)).off + 1, none⟩) = some (.string u.f_Field)) ∧ (World.cell? w' (sad.add (i * 3)) = some (.string x.name) ∧ World.cell? w' (⟨(sad.add (i * 3)).block, (sad.add (i * 3)).off + 1, none⟩) = some (.slice x.a x.xs.length x.c) ∧ World.cell? w' (⟨(sad.add (i * 3)).block, (sad.add (i * 3)).off + 2, none⟩) = some (.int .i64 x.auto)))) (by kernel_rfl) ⟨Bag.cs4 (Bag.drew1 S5.out) 0 rfl, HKu.out _ (Bag.drew1 S5.out).old, HKx.out _ (Bag.drew1 S5.out).old⟩ (fun hS => ?_)
                have S6 := Lib.hid (show Sl.Sep w _ [L4.boxR w.heap.size 31 #[.string name, .int .i64 ver, .slice (some sad) k sc, .slice (some uad) M uc]] from Bag.drew1 S5.out)
                clear S5
                generalize World.drew _ = w4 at hS S6 ⊢
                refine tk 0 rfl ?_
                try simp only [zp0, zp1, zp2, zp3, zp4]
                refine tk 1 rfl ?_
                try simp only [zp0, zp1, zp2, zp3, zp4]
                refine tk 2 rfl ?_
                try simp only [zp0, zp1, zp2, zp3, zp4]
                refine tk 3 rfl ?_
                try simp only [zp0, zp1, zp2, zp3, zp4]
                refine tk 4 rfl ?_
                try simp only [zp0, zp1, zp2, zp3, zp4]
                refine tk 5 rfl ?_
                try simp only [zp0, zp1, zp2, zp3, zp4]
                refine tk 6 rfl ?_
                try simp only [zp0, zp1, zp2, zp3, zp4]
                refine tk 7 rfl ?_
                try simp only [zp0, zp1, zp2, zp3, zp4]
                refine tk 8 rfl ?_
                try simp only [zp0, zp1, zp2, zp3, zp4]
                refine tk 9 rfl ?_
                try simp only [zp0, zp1, zp2, zp3, zp4]
                refine tk 10 rfl ?_
                try simp only [zp0, zp1, zp2, zp3, zp4]
                refine wpAnyH_ready (rs := [11, 16, 17]) (by kernel_rfl) (by simp) ?_
                refine Reg.cons_op (i := 11) rfl (fun K hK => ?_) ?_
                · skip
                  go_simp
                  go_at_call 22
                  refine (HUF.out _ S6.out.old).mono ?_
                  rintro e w5 ⟨rfl, hb⟩
                  have S7 := Lib.hid (S6.out.keep hb)
                  clear S6
                  clear hb
                  go_wp2_with fail
                  refine hK.out _ _ ⟨Bag.cs4 S7.out 0 rfl, HKu.out _ S7.out.old, HKx.out _ S7.out.old⟩ (fun hS => ?_)
                  clear hK K
                  try simp only [zp0, zp1, zp2, zp3, zp4]
                  refine tk 12 rfl ?_
                  try simp only [zp0, zp1, zp2, zp3, zp4]
                  refine tk 13 rfl ?_
                  try simp only [zp0, zp1, zp2, zp3, zp4]
                  refine tk 14 rfl ?_
                  try simp only [zp0, zp1, zp2, zp3, zp4]
                  refine tk 15 rfl ?_
                  try simp only [zp0, zp1, zp2, zp3, zp4]
                  refine wpAnyH_ready (rs := [16, 17]) (by kernel_rfl) (by simp) ?_
                  refine Reg.cons_op (i := 16) rfl (fun K hK => ?_) ?_
                  · skip
                    go_simp
                    have S8 := Lib.hid (show Sl.Sep w _ [L4.boxR w.heap.size 31 #[.string name, .int .i64 ver, .slice (some sad) k sc, .slice (some uad) M uc], L4.boxR w5.heap.size 49 #[.int .i64 0, .int .i64 0, .string ⟨#[]⟩]] from L4.push_box S7.out 49 #[.int .i64 0, .int .i64 0, .string ⟨#[]⟩] w5.heap.size rfl)
                    clear S7
                    obtain ⟨g1, hg⟩ : ∃ g', g' = w5.heap.size := ⟨_, rfl⟩
                    rw [← hg] at S8 ⊢
                    clear hg
                    generalize w5.alloc (.cells #[.int .i64 0, .int .i64 0, .string ⟨#[]⟩] 49) = w6 at S8 ⊢
                    refine hK.out _ _ ⟨Bag.cs4 S8.out 0 rfl, HKu.out _ S8.out.old, HKx.out _ S8.out.old⟩ (fun hS => ?_)
                    clear hK K
                    try simp only [zp0, zp1, zp2, zp3, zp4]
                    refine Reg.one_op (i := 17) rfl (by kernel_rfl) (fun K hK => ?_)
                    go_simp
                    have S9 := Lib.hid (show Sl.Sep w _ [L4.boxR w.heap.size 31 #[.string name, .int .i64 ver, .slice (some sad) k sc, .slice (some uad) M uc], L4.boxR g1 49 #[.int .i64 0, .int .i64 0, .string ⟨#[]⟩], L4.boxR w6.heap.size 49 #[.int .i64 0, .int .i64 0, .string ⟨#[]⟩]] from L4.push_box S8.out 49 #[.int .i64 0, .int .i64 0, .string ⟨#[]⟩] w6.heap.size rfl)
                    clear S8
                    obtain ⟨g2, hg⟩ : ∃ g', g' = w6.heap.size := ⟨_, rfl⟩
                    rw [← hg] at S9 ⊢
                    clear hg
                    generalize w6.alloc (.cells #[.int .i64 0, .int .i64 0, .string ⟨#[]⟩] 49) = w7 at S9 ⊢
                    refine hK.out _ _ ⟨Bag.cs4 S9.out 0 rfl, HKu.out _ S9.out.old, HKx.out _ S9.out.old⟩ (fun hS => ?_)
                    clear hK K
                    try simp only [zp0, zp1, zp2, zp3, zp4]
                    refine Reg.one_op (i := 18) rfl (by kernel_rfl) (fun K hK => ?_)
                    have hh := Bag.cs3 S9.out 1 rfl
                    have f0 := hh.1; have f1 := hh.2.1; have f2 := hh.2.2; clear hh
                    have hh := Bag.fs3 S9.out 1 rfl
                    have z0 := hh.1; have z1 := hh.2.1; have z2 := hh.2.2; clear hh
                    go_simp
                    clear f0 f1 f2 z0 z1 z2
                    have S10 := Lib.hid (show Sl.Sep w _ [L4.boxR w.heap.size 31 #[.string name, .int .i64 ver, .slice (some sad) k sc, .slice (some uad) M uc], L4.boxR g1 49 #[.int .i64 KA.kind, .int .i64 KA.n, .string KA.text], L4.boxR g2 49 #[.int .i64 0, .int .i64 0, .string ⟨#[]⟩]] from L5.put_box5 (L5.put_box5 (L5.put_box5 (S9.out) 1 rfl 0 (.int .i64 KA.kind)) 1 rfl 1 (.int .i64 KA.n)) 1 rfl 2 (.string KA.text))
                    clear S9
                    refine hK.out _ _ ⟨Bag.cs4 S10.out 0 rfl, HKu.out _ S10.out.old, HKx.out _ S10.out.old⟩ (fun hS => ?_)
                    clear hK K
                    try simp only [zp0, zp1, zp2, zp3, zp4]
                    refine Reg.one_op (i := 19) rfl (by kernel_rfl) (fun K hK => ?_)
                    have hh := Bag.cs3 S10.out 2 rfl
                    have f0 := hh.1; have f1 := hh.2.1; have f2 := hh.2.2; clear hh
                    have hh := Bag.fs3 S10.out 2 rfl
                    have z0 := hh.1; have z1 := hh.2.1; have z2 := hh.2.2; clear hh
                    go_simp
                    clear f0 f1 f2 z0 z1 z2
                    have S11 := Lib.hid (show Sl.Sep w _ [L4.boxR w.heap.size 31 #[.string name, .int .i64 ver, .slice (some sad) k sc, .slice (some uad) M uc], L4.boxR g1 49 #[.int .i64 KA.kind, .int .i64 KA.n, .string KA.text], L4.boxR g2 49 #[.int .i64 KZ.kind, .int .i64 KZ.n, .string KZ.text]] from L5.put_box5 (L5.put_box5 (L5.put_box5 (S10.out) 2 rfl 0 (.int .i64 KZ.kind)) 2 rfl 1 (.int .i64 KZ.n)) 2 rfl 2 (.string KZ.text))
                    clear S10
                    refine hK.out _ _ ⟨Bag.cs4 S11.out 0 rfl, HKu.out _ S11.out.old, HKx.out _ S11.out.old⟩ (fun hS => ?_)
                    clear hK K
                    try simp only [zp0, zp1, zp2, zp3, zp4]
                    refine tk 20 rfl ?_
                    try simp only [zp0, zp1, zp2, zp3, zp4]
                    refine wpAnyH_done (by kernel_rfl) ?_ _
                    have hh := Bag.cs4 S11.out 0 rfl
                    have f0 := hh.1; have f1 := hh.2.1; have f2 := hh.2.2.1; have f3 := hh.2.2.2; clear hh
                    have hh := Bag.cs3 S11.out 1 rfl
                    have f4 := hh.1; have f5 := hh.2.1; have f6 := hh.2.2; clear hh
                    have hh := Bag.cs3 S11.out 2 rfl
                    have f7 := hh.1; have f8 := hh.2.1; have f9 := hh.2.2; clear hh
                    have hh := HKu.out _ S11.out.old
                    have f10 := hh.1; have f11 := hh.2; clear hh
                    have hh := HKx.out _ S11.out.old
                    have f12 := hh.1; have f13 := hh.2.1; have f14 := hh.2.2; clear hh
                    clear f0 f1 f2 f3 f4 f5 f6 f7 f8 f9 f10 f11 f12 f13 f14
                    have S12 := Lib.hid (show Sl.Sep w _ [L4.boxR w.heap.size 31 #[.string name, .int .i64 ver, .slice (some sad) k sc, .slice (some uad) M uc]] from Bag.take S11.out [0] (by rfl) (by decide))
                    clear S11
                    go_wp2_with fail
                    go_meet
                    case rel => exact ⟨rfl, S12.out⟩
                  refine Reg.cons_op (i := 17) rfl (fun K hK => ?_) ?_
                  · skip
                    go_simp
                    have S8 := Lib.hid (show Sl.Sep w _ [L4.boxR w.heap.size 31 #[.string name, .int .i64 ver, .slice (some sad) k sc, .slice (some uad) M uc], L4.boxR w5.heap.size 49 #[.int .i64 0, .int .i64 0, .string ⟨#[]⟩]] from L4.push_box S7.out 49 #[.int .i64 0, .int .i64 0, .string ⟨#[]⟩] w5.heap.size rfl)
                    clear S7
                    obtain ⟨g1, hg⟩ : ∃ g', g' = w5.heap.size := ⟨_, rfl⟩
                    rw [← hg] at S8 ⊢
                    clear hg
                    generalize w5.alloc (.cells #[.int .i64 0, .int .i64 0, .string ⟨#[]⟩] 49) = w6 at S8 ⊢
                    refine hK.out _ _ ⟨Bag.cs4 S8.out 0 rfl, HKu.out _ S8.out.old, HKx.out _ S8.out.old⟩ (fun hS => ?_)
                    clear hK K
                    try simp only [zp0, zp1, zp2, zp3, zp4]
                    refine Reg.one_op (i := 16) rfl (by kernel_rfl) (fun K hK => ?_)
                    go_simp
                    have S9 := Lib.hid (show Sl.Sep w _ [L4.boxR w.heap.size 31 #[.string name, .int .i64 ver, .slice (some sad) k sc, .slice (some uad) M uc], L4.boxR g1 49 #[.int .i64 0, .int .i64 0, .string ⟨#[]⟩], L4.boxR w6.heap.size 49 #[.int .i64 0, .int .i64 0, .string ⟨#[]⟩]] from L4.push_box S8.out 49 #[.int .i64 0, .int .i64 0, .string ⟨#[]⟩] w6.heap.size rfl)
                    clear S8
                    obtain ⟨g2, hg⟩ : ∃ g', g' = w6.heap.size := ⟨_, rfl⟩
                    rw [← hg] at S9 ⊢
                    clear hg
                    generalize w6.alloc (.cells #[.int .i64 0, .int .i64 0, .string ⟨#[]⟩] 49) = w7 at S9 ⊢
                    refine hK.out _ _ ⟨Bag.cs4 S9.out 0 rfl, HKu.out _ S9.out.old, HKx.out _ S9.out.old⟩ (fun hS => ?_)
                    clear hK K
                    try simp only [zp0, zp1, zp2, zp3, zp4]
                    refine Reg.one_op (i := 18) rfl (by kernel_rfl) (fun K hK => ?_)
                    have hh := Bag.cs3 S9.out 2 rfl
                    have f0 := hh.1; have f1 := hh.2.1; have f2 := hh.2.2; clear hh
                    have hh := Bag.fs3 S9.out 2 rfl
                    have z0 := hh.1; have z1 := hh.2.1; have z2 := hh.2.2; clear hh
                    go_simp
                    clear f0 f1 f2 z0 z1 z2
                    have S10 := Lib.hid (show Sl.Sep w _ [L4.boxR w.heap.size 31 #[.string name, .int .i64 ver, .slice (some sad) k sc, .slice (some uad) M uc], L4.boxR g1 49 #[.int .i64 0, .int .i64 0, .string ⟨#[]⟩], L4.boxR g2 49 #[.int .i64 KA.kind, .int .i64 KA.n, .string KA.text]] from L5.put_box5 (L5.put_box5 (L5.put_box5 (S9.out) 2 rfl 0 (.int .i64 KA.kind)) 2 rfl 1 (.int .i64 KA.n)) 2 rfl 2 (.string KA.text))
                    clear S9
                    refine hK.out _ _ ⟨Bag.cs4 S10.out 0 rfl, HKu.out _ S10.out.old, HKx.out _ S10.out.old⟩ (fun hS => ?_)
                    clear hK K
                    try simp only [zp0, zp1, zp2, zp3, zp4]
                    refine Reg.one_op (i := 19) rfl (by kernel_rfl) (fun K hK => ?_)
                    have hh := Bag.cs3 S10.out 1 rfl
                    have f0 := hh.1; have f1 := hh.2.1; have f2 := hh.2.2; clear hh
                    have hh := Bag.fs3 S10.out 1 rfl
                    have z0 := hh.1; have z1 := hh.2.1; have z2 := hh.2.2; clear hh
                    go_simp
                    clear f0 f1 f2 z0 z1 z2
                    have S11 := Lib.hid (show Sl.Sep w _ [L4.boxR w.heap.size 31 #[.string name, .int .i64 ver, .slice (some sad) k sc, .slice (some uad) M uc], L4.boxR g1 49 #[.int .i64 KZ.kind, .int .i64 KZ.n, .string KZ.text], L4.boxR g2 49 #[.int .i64 KA.kind, .int .i64 KA.n, .string KA.text]] from L5.put_box5 (L5.put_box5 (L5.put_box5 (S10.out) 1 rfl 0 (.int .i64 KZ.kind)) 1 rfl 1 (.int .i64 KZ.n)) 1 rfl 2 (.string KZ.text))
                    clear S10
                    refine hK.out _ _ ⟨Bag.cs4 S11.out 0 rfl, HKu.out _ S11.out.old, HKx.out _ S11.out.old⟩ (fun hS => ?_)
                    clear hK K
                    try simp only [zp0, zp1, zp2, zp3, zp4]
                    refine tk 20 rfl ?_
                    try simp only [zp0, zp1, zp2, zp3, zp4]
                    refine wpAnyH_done (by kernel_rfl) ?_ _
                    have hh := Bag.cs4 S11.out 0 rfl
                    have f0 := hh.1; have f1 := hh.2.1; have f2 := hh.2.2.1; have f3 := hh.2.2.2; clear hh
                    have hh := Bag.cs3 S11.out 1 rfl
                    have f4 := hh.1; have f5 := hh.2.1; have f6 := hh.2.2; clear hh
                    have hh := Bag.cs3 S11.out 2 rfl
                    have f7 := hh.1; have f8 := hh.2.1; have f9 := hh.2.2; clear hh
                    have hh := HKu.out _ S11.out.old
                    have f10 := hh.1; have f11 := hh.2; clear hh
                    have hh := HKx.out _ S11.out.old
                    have f12 := hh.1; have f13 := hh.2.1; have f14 := hh.2.2; clear hh
                    clear f0 f1 f2 f3 f4 f5 f6 f7 f8 f9 f10 f11 f12 f13 f14
                    have S12 := Lib.hid (show Sl.Sep w _ [L4.boxR w.heap.size 31 #[.string name, .int .i64 ver, .slice (some sad) k sc, .slice (some uad) M uc]] from Bag.take S11.out [0] (by rfl) (by decide))
                    clear S11
                    go_wp2_with fail
                    go_meet
                    case rel => exact ⟨rfl, S12.out⟩
                  exact AllReadyH.nil
                refine Reg.cons_op (i := 16) rfl (fun K hK => ?_) ?_
                · skip
                  go_simp
                  have S7 := Lib.hid (show Sl.Sep w _ [L4.boxR w.heap.size 31 #[.string name, .int .i64 ver, .slice (some sad) k sc, .slice (some uad) M uc], L4.boxR w4.heap.size 49 #[.int .i64 0, .int .i64 0, .string ⟨#[]⟩]] from L4.push_box S6.out 49 #[.int .i64 0, .int .i64 0, .string ⟨#[]⟩] w4.heap.size rfl)
                  clear S6
                  obtain ⟨g1, hg⟩ : ∃ g', g' = w4.heap.size := ⟨_, rfl⟩
                  rw [← hg] at S7 ⊢
                  clear hg
                  generalize w4.alloc (.cells #[.int .i64 0, .int .i64 0, .string ⟨#[]⟩] 49) = w5 at S7 ⊢
                  refine hK.out _ _ ⟨Bag.cs4 S7.out 0 rfl, HKu.out _ S7.out.old, HKx.out _ S7.out.old⟩ (fun hS => ?_)
                  clear hK K
                  try simp only [zp0, zp1, zp2, zp3, zp4]
                  refine wpAnyH_ready (rs := [11, 17]) (by kernel_rfl) (by simp) ?_
                  refine Reg.cons_op (i := 11) rfl (fun K hK => ?_) ?_
                  · skip
                    go_simp
                    go_at_call 22
                    refine (HUF.out _ S7.out.old).mono ?_
                    rintro e w6 ⟨rfl, hb⟩
                    have S8 := Lib.hid (S7.out.keep hb)
                    clear S7
                    clear hb
                    go_wp2_with fail
                    refine hK.out _ _ ⟨Bag.cs4 S8.out 0 rfl, HKu.out _ S8.out.old, HKx.out _ S8.out.old⟩ (fun hS => ?_)
                    clear hK K
                    try simp only [zp0, zp1, zp2, zp3, zp4]
                    refine tk 12 rfl ?_
                    try simp only [zp0, zp1, zp2, zp3, zp4]
                    refine tk 13 rfl ?_
                    try simp only [zp0, zp1, zp2, zp3, zp4]
                    refine tk 14 rfl ?_
                    try simp only [zp0, zp1, zp2, zp3, zp4]
                    refine tk 15 rfl ?_
                    try simp only [zp0, zp1, zp2, zp3, zp4]
                    refine Reg.one_op (i := 17) rfl (by kernel_rfl) (fun K hK => ?_)
                    go_simp
                    have S9 := Lib.hid (show Sl.Sep w _ [L4.boxR w.heap.size 31 #[.string name, .int .i64 ver, .slice (some sad) k sc, .slice (some uad) M uc], L4.boxR g1 49 #[.int .i64 0, .int .i64 0, .string ⟨#[]⟩], L4.boxR w6.heap.size 49 #[.int .i64 0, .int .i64 0, .string ⟨#[]⟩]] from L4.push_box S8.out 49 #[.int .i64 0, .int .i64 0, .string ⟨#[]⟩] w6.heap.size rfl)
                    clear S8
                    obtain ⟨g2, hg⟩ : ∃ g', g' = w6.heap.size := ⟨_, rfl⟩
                    rw [← hg] at S9 ⊢
                    clear hg
                    generalize w6.alloc (.cells #[.int .i64 0, .int .i64 0, .string ⟨#[]⟩] 49) = w7 at S9 ⊢
                    refine hK.out _ _ ⟨Bag.cs4 S9.out 0 rfl, HKu.out _ S9.out.old, HKx.out _ S9.out.old⟩ (fun hS => ?_)
                    clear hK K
                    try simp only [zp0, zp1, zp2, zp3, zp4]
                    refine Reg.one_op (i := 18) rfl (by kernel_rfl) (fun K hK => ?_)
                    have hh := Bag.cs3 S9.out 1 rfl
                    have f0 := hh.1; have f1 := hh.2.1; have f2 := hh.2.2; clear hh
                    have hh := Bag.fs3 S9.out 1 rfl
                    have z0 := hh.1; have z1 := hh.2.1; have z2 := hh.2.2; clear hh
                    go_simp
                    clear f0 f1 f2 z0 z1 z2
                    have S10 := Lib.hid (show Sl.Sep w _ [L4.boxR w.heap.size 31 #[.string name, .int .i64 ver, .slice (some sad) k sc, .slice (some uad) M uc], L4.boxR g1 49 #[.int .i64 KA.kind, .int .i64 KA.n, .string KA.text], L4.boxR g2 49 #[.int .i64 0, .int .i64 0, .string ⟨#[]⟩]] from L5.put_box5 (L5.put_box5 (L5.put_box5 (S9.out) 1 rfl 0 (.int .i64 KA.kind)) 1 rfl 1 (.int .i64 KA.n)) 1 rfl 2 (.string KA.text))
                    clear S9
                    refine hK.out _ _ ⟨Bag.cs4 S10.out 0 rfl, HKu.out _ S10.out.old, HKx.out _ S10.out.old⟩ (fun hS => ?_)
                    clear hK K
                    try simp only [zp0, zp1, zp2, zp3, zp4]
                    refine Reg.one_op (i := 19) rfl (by kernel_rfl) (fun K hK => ?_)
                    have hh := Bag.cs3 S10.out 2 rfl
                    have f0 := hh.1; have f1 := hh.2.1; have f2 := hh.2.2; clear hh
                    have hh := Bag.fs3 S10.out 2 rfl
                    have z0 := hh.1; have z1 := hh.2.1; have z2 := hh.2.2; clear hh
                    go_simp
                    clear f0 f1 f2 z0 z1 z2
                    have S11 := Lib.hid (show Sl.Sep w _ [L4.boxR w.heap.size 31 #[.string name, .int .i64 ver, .slice (some sad) k sc, .slice (some uad) M uc], L4.boxR g1 49 #[.int .i64 KA.kind, .int .i64 KA.n, .string KA.text], L4.boxR g2 49 #[.int .i64 KZ.kind, .int .i64 KZ.n, .string KZ.text]] from L5.put_box5 (L5.put_box5 (L5.put_box5 (S10.out) 2 rfl 0 (.int .i64 KZ.kind)) 2 rfl 1 (.int .i64 KZ.n)) 2 rfl 2 (.string KZ.text))
                    clear S10
                    refine hK.out _ _ ⟨Bag.cs4 S11.out 0 rfl, HKu.out _ S11.out.old, HKx.out _ S11.out.old⟩ (fun hS => ?_)
                    clear hK K
                    try simp only [zp0, zp1, zp2, zp3, zp4]
                    refine tk 20 rfl ?_
                    try simp only [zp0, zp1, zp2, zp3, zp4]
                    refine wpAnyH_done (by kernel_rfl) ?_ _
                    have hh := Bag.cs4 S11.out 0 rfl
                    have f0 := hh.1; have f1 := hh.2.1; have f2 := hh.2.2.1; have f3 := hh.2.2.2; clear hh
                    have hh := Bag.cs3 S11.out 1 rfl
                    have f4 := hh.1; have f5 := hh.2.1; have f6 := hh.2.2; clear hh
                    have hh := Bag.cs3 S11.out 2 rfl
                    have f7 := hh.1; have f8 := hh.2.1; have f9 := hh.2.2; clear hh
                    have hh := HKu.out _ S11.out.old
                    have f10 := hh.1; have f11 := hh.2; clear hh
                    have hh := HKx.out _ S11.out.old
                    have f12 := hh.1; have f13 := hh.2.1; have f14 := hh.2.2; clear hh
                    clear f0 f1 f2 f3 f4 f5 f6 f7 f8 f9 f10 f11 f12 f13 f14
                    have S12 := Lib.hid (show Sl.Sep w _ [L4.boxR w.heap.size 31 #[.string name, .int .i64 ver, .slice (some sad) k sc, .slice (some uad) M uc]] from Bag.take S11.out [0] (by rfl) (by decide))
                    clear S11
                    go_wp2_with fail
                    go_meet
                    case rel => exact ⟨rfl, S12.out⟩
                  refine Reg.cons_op (i := 17) rfl (fun K hK => ?_) ?_
                  · skip
                    go_simp
                    have S8 := Lib.hid (show Sl.Sep w _ [L4.boxR w.heap.size 31 #[.string name, .int .i64 ver, .slice (some sad) k sc, .slice (some uad) M uc], L4.boxR g1 49 #[.int .i64 0, .int .i64 0, .string ⟨#[]⟩], L4.boxR w5.heap.size 49 #[.int .i64 0, .int .i64 0, .string ⟨#[]⟩]] from L4.push_box S7.out 49 #[.int .i64 0, .int .i64 0, .string ⟨#[]⟩] w5.heap.size rfl)
                    clear S7
                    obtain ⟨g2, hg⟩ : ∃ g', g' = w5.heap.size := ⟨_, rfl⟩
                    rw [← hg] at S8 ⊢
                    clear hg
                    generalize w5.alloc (.cells #[.int .i64 0, .int .i64 0, .string ⟨#[]⟩] 49) = w6 at S8 ⊢
                    refine hK.out _ _ ⟨Bag.cs4 S8.out 0 rfl, HKu.out _ S8.out.old, HKx.out _ S8.out.old⟩ (fun hS => ?_)
                    clear hK K
                    try simp only [zp0, zp1, zp2, zp3, zp4]
                    refine Reg.one_op (i := 11) rfl (by kernel_rfl) (fun K hK => ?_)
                    go_simp
                    go_at_call 22
                    refine (HUF.out _ S8.out.old).mono ?_
                    rintro e w7 ⟨rfl, hb⟩
                    have S9 := Lib.hid (S8.out.keep hb)
                    clear S8
                    clear hb
                    go_wp2_with fail
                    refine hK.out _ _ ⟨Bag.cs4 S9.out 0 rfl, HKu.out _ S9.out.old, HKx.out _ S9.out.old⟩ (fun hS => ?_)
                    clear hK K
                    try simp only [zp0, zp1, zp2, zp3, zp4]
                    refine tk 12 rfl ?_
                    try simp only [zp0, zp1, zp2, zp3, zp4]
                    refine tk 13 rfl ?_
                    try simp only [zp0, zp1, zp2, zp3, zp4]
                    refine tk 14 rfl ?_
                    try simp only [zp0, zp1, zp2, zp3, zp4]
                    refine tk 15 rfl ?_
                    try simp only [zp0, zp1, zp2, zp3, zp4]
                    refine Reg.one_op (i := 18) rfl (by kernel_rfl) (fun K hK => ?_)
                    have hh := Bag.cs3 S9.out 1 rfl
                    have f0 := hh.1; have f1 := hh.2.1; have f2 := hh.2.2; clear hh
                    have hh := Bag.fs3 S9.out 1 rfl
                    have z0 := hh.1; have z1 := hh.2.1; have z2 := hh.2.2; clear hh
                    go_simp
                    clear f0 f1 f2 z0 z1 z2
                    have S10 := Lib.hid (show Sl.Sep w _ [L4.boxR w.heap.size 31 #[.string name, .int .i64 ver, .slice (some sad) k sc, .slice (some uad) M uc], L4.boxR g1 49 #[.int .i64 KA.kind, .int .i64 KA.n, .string KA.text], L4.boxR g2 49 #[.int .i64 0, .int .i64 0, .string ⟨#[]⟩]] from L5.put_box5 (L5.put_box5 (L5.put_box5 (S9.out) 1 rfl 0 (.int .i64 KA.kind)) 1 rfl 1 (.int .i64 KA.n)) 1 rfl 2 (.string KA.text))
                    clear S9
                    refine hK.out _ _ ⟨Bag.cs4 S10.out 0 rfl, HKu.out _ S10.out.old, HKx.out _ S10.out.old⟩ (fun hS => ?_)
                    clear hK K
                    try simp only [zp0, zp1, zp2, zp3, zp4]
                    refine Reg.one_op (i := 19) rfl (by kernel_rfl) (fun K hK => ?_)
                    have hh := Bag.cs3 S10.out 2 rfl
                    have f0 := hh.1; have f1 := hh.2.1; have f2 := hh.2.2; clear hh
                    have hh := Bag.fs3 S10.out 2 rfl
                    have z0 := hh.1; have z1 := hh.2.1; have z2 := hh.2.2; clear hh
                    go_simp
                    clear f0 f1 f2 z0 z1 z2
                    have S11 := Lib.hid (show Sl.Sep w _ [L4.boxR w.heap.size 31 #[.string name, .int .i64 ver, .slice (some sad) k sc, .slice (some uad) M uc], L4.boxR g1 49 #[.int .i64 KA.kind, .int .i64 KA.n, .string KA.text], L4.boxR g2 49 #[.int .i64 KZ.kind, .int .i64 KZ.n, .string KZ.text]] from L5.put_box5 (L5.put_box5 (L5.put_box5 (S10.out) 2 rfl 0 (.int .i64 KZ.kind)) 2 rfl 1 (.int .i64 KZ.n)) 2 rfl 2 (.string KZ.text))
                    clear S10
                    refine hK.out _ _ ⟨Bag.cs4 S11.out 0 rfl, HKu.out _ S11.out.old, HKx.out _ S11.out.old⟩ (fun hS => ?_)
                    clear hK K
                    try simp only [zp0, zp1, zp2, zp3, zp4]
                    refine tk 20 rfl ?_
                    try simp only [zp0, zp1, zp2, zp3, zp4]
                    refine wpAnyH_done (by kernel_rfl) ?_ _
                    have hh := Bag.cs4 S11.out 0 rfl
                    have f0 := hh.1; have f1 := hh.2.1; have f2 := hh.2.2.1; have f3 := hh.2.2.2; clear hh
                    have hh := Bag.cs3 S11.out 1 rfl
                    have f4 := hh.1; have f5 := hh.2.1; have f6 := hh.2.2; clear hh
                    have hh := Bag.cs3 S11.out 2 rfl
                    have f7 := hh.1; have f8 := hh.2.1; have f9 := hh.2.2; clear hh
                    have hh := HKu.out _ S11.out.old
                    have f10 := hh.1; have f11 := hh.2; clear hh
                    have hh := HKx.out _ S11.out.old
                    have f12 := hh.1; have f13 := hh.2.1; have f14 := hh.2.2; clear hh
                    clear f0 f1 f2 f3 f4 f5 f6 f7 f8 f9 f10 f11 f12 f13 f14
                    have S12 := Lib.hid (show Sl.Sep w _ [L4.boxR w.heap.size 31 #[.string name, .int .i64 ver, .slice (some sad) k sc, .slice (some uad) M uc]] from Bag.take S11.out [0] (by rfl) (by decide))
                    clear S11
                    go_wp2_with fail
                    go_meet
                    case rel => exact ⟨rfl, S12.out⟩
                  exact AllReadyH.nil
                refine Reg.cons_op (i := 17) rfl (fun K hK => ?_) ?_
                · skip
                  go_simp
                  have S7 := Lib.hid (show Sl.Sep w _ [L4.boxR w.heap.size 31 #[.string name, .int .i64 ver, .slice (some sad) k sc, .slice (some uad) M uc], L4.boxR w4.heap.size 49 #[.int .i64 0, .int .i64 0, .string ⟨#[]⟩]] from L4.push_box S6.out 49 #[.int .i64 0, .int .i64 0, .string ⟨#[]⟩] w4.heap.size rfl)
                  clear S6
                  obtain ⟨g1, hg⟩ : ∃ g', g' = w4.heap.size := ⟨_, rfl⟩
                  rw [← hg] at S7 ⊢
                  clear hg
                  generalize w4.alloc (.cells #[.int .i64 0, .int .i64 0, .string ⟨#[]⟩] 49) = w5 at S7 ⊢
                  refine hK.out _ _ ⟨Bag.cs4 S7.out 0 rfl, HKu.out _ S7.out.old, HKx.out _ S7.out.old⟩ (fun hS => ?_)
                  clear hK K
                  try simp only [zp0, zp1, zp2, zp3, zp4]
                  refine wpAnyH_ready (rs := [11, 16]) (by kernel_rfl) (by simp) ?_
                  refine Reg.cons_op (i := 11) rfl (fun K hK => ?_) ?_
                  · skip
                    go_simp
                    go_at_call 22
                    refine (HUF.out _ S7.out.old).mono ?_
                    rintro e w6 ⟨rfl, hb⟩
                    have S8 := Lib.hid (S7.out.keep hb)
                    clear S7
                    clear hb
                    go_wp2_with fail
                    refine hK.out _ _ ⟨Bag.cs4 S8.out 0 rfl, HKu.out _ S8.out.old, HKx.out _ S8.out.old⟩ (fun hS => ?_)
                    clear hK K
                    try simp only [zp0, zp1, zp2, zp3, zp4]
                    refine tk 12 rfl ?_
                    try simp only [zp0, zp1, zp2, zp3, zp4]
                    refine tk 13 rfl ?_
                    try simp only [zp0, zp1, zp2, zp3, zp4]
                    refine tk 14 rfl ?_
                    try simp only [zp0, zp1, zp2, zp3, zp4]
                    refine tk 15 rfl ?_
                    try simp only [zp0, zp1, zp2, zp3, zp4]
                    refine Reg.one_op (i := 16) rfl (by kernel_rfl) (fun K hK => ?_)
                    go_simp
                    have S9 := Lib.hid (show Sl.Sep w _ [L4.boxR w.heap.size 31 #[.string name, .int .i64 ver, .slice (some sad) k sc, .slice (some uad) M uc], L4.boxR g1 49 #[.int .i64 0, .int .i64 0, .string ⟨#[]⟩], L4.boxR w6.heap.size 49 #[.int .i64 0, .int .i64 0, .string ⟨#[]⟩]] from L4.push_box S8.out 49 #[.int .i64 0, .int .i64 0, .string ⟨#[]⟩] w6.heap.size rfl)
                    clear S8
                    obtain ⟨g2, hg⟩ : ∃ g', g' = w6.heap.size := ⟨_, rfl⟩
                    rw [← hg] at S9 ⊢
                    clear hg
                    generalize w6.alloc (.cells #[.int .i64 0, .int .i64 0, .string ⟨#[]⟩] 49) = w7 at S9 ⊢
                    refine hK.out _ _ ⟨Bag.cs4 S9.out 0 rfl, HKu.out _ S9.out.old, HKx.out _ S9.out.old⟩ (fun hS => ?_)
                    clear hK K
                    try simp only [zp0, zp1, zp2, zp3, zp4]
                    refine Reg.one_op (i := 18) rfl (by kernel_rfl) (fun K hK => ?_)
                    have hh := Bag.cs3 S9.out 2 rfl
                    have f0 := hh.1; have f1 := hh.2.1; have f2 := hh.2.2; clear hh
                    have hh := Bag.fs3 S9.out 2 rfl
                    have z0 := hh.1; have z1 := hh.2.1; have z2 := hh.2.2; clear hh
                    go_simp
                    clear f0 f1 f2 z0 z1 z2
                    have S10 := Lib.hid (show Sl.Sep w _ [L4.boxR w.heap.size 31 #[.string name, .int .i64 ver, .slice (some sad) k sc, .slice (some uad) M uc], L4.boxR g1 49 #[.int .i64 0, .int .i64 0, .string ⟨#[]⟩], L4.boxR g2 49 #[.int .i64 KA.kind, .int .i64 KA.n, .string KA.text]] from L5.put_box5 (L5.put_box5 (L5.put_box5 (S9.out) 2 rfl 0 (.int .i64 KA.kind)) 2 rfl 1 (.int .i64 KA.n)) 2 rfl 2 (.string KA.text))
                    clear S9
                    refine hK.out _ _ ⟨Bag.cs4 S10.out 0 rfl, HKu.out _ S10.out.old, HKx.out _ S10.out.old⟩ (fun hS => ?_)
                    clear hK K
                    try simp only [zp0, zp1, zp2, zp3, zp4]
                    refine Reg.one_op (i := 19) rfl (by kernel_rfl) (fun K hK => ?_)
                    have hh := Bag.cs3 S10.out 1 rfl
                    have f0 := hh.1; have f1 := hh.2.1; have f2 := hh.2.2; clear hh
                    have hh := Bag.fs3 S10.out 1 rfl
                    have z0 := hh.1; have z1 := hh.2.1; have z2 := hh.2.2; clear hh
                    go_simp
                    clear f0 f1 f2 z0 z1 z2
                    have S11 := Lib.hid (show Sl.Sep w _ [L4.boxR w.heap.size 31 #[.string name, .int .i64 ver, .slice (some sad) k sc, .slice (some uad) M uc], L4.boxR g1 49 #[.int .i64 KZ.kind, .int .i64 KZ.n, .string KZ.text], L4.boxR g2 49 #[.int .i64 KA.kind, .int .i64 KA.n, .string KA.text]] from L5.put_box5 (L5.put_box5 (L5.put_box5 (S10.out) 1 rfl 0 (.int .i64 KZ.kind)) 1 rfl 1 (.int .i64 KZ.n)) 1 rfl 2 (.string KZ.text))
                    clear S10
                    refine hK.out _ _ ⟨Bag.cs4 S11.out 0 rfl, HKu.out _ S11.out.old, HKx.out _ S11.out.old⟩ (fun hS => ?_)
                    clear hK K
                    try simp only [zp0, zp1, zp2, zp3, zp4]
                    refine tk 20 rfl ?_
                    try simp only [zp0, zp1, zp2, zp3, zp4]
                    refine wpAnyH_done (by kernel_rfl) ?_ _
                    have hh := Bag.cs4 S11.out 0 rfl
                    have f0 := hh.1; have f1 := hh.2.1; have f2 := hh.2.2.1; have f3 := hh.2.2.2; clear hh
                    have hh := Bag.cs3 S11.out 1 rfl
                    have f4 := hh.1; have f5 := hh.2.1; have f6 := hh.2.2; clear hh
                    have hh := Bag.cs3 S11.out 2 rfl
                    have f7 := hh.1; have f8 := hh.2.1; have f9 := hh.2.2; clear hh
                    have hh := HKu.out _ S11.out.old
                    have f10 := hh.1; have f11 := hh.2; clear hh
                    have hh := HKx.out _ S11.out.old
                    have f12 := hh.1; have f13 := hh.2.1; have f14 := hh.2.2; clear hh
                    clear f0 f1 f2 f3 f4 f5 f6 f7 f8 f9 f10 f11 f12 f13 f14
                    have S12 := Lib.hid (show Sl.Sep w _ [L4.boxR w.heap.size 31 #[.string name, .int .i64 ver, .slice (some sad) k sc, .slice (some uad) M uc]] from Bag.take S11.out [0] (by rfl) (by decide))
                    clear S11
                    go_wp2_with fail
                    go_meet
                    case rel => exact ⟨rfl, S12.out⟩
                  refine Reg.cons_op (i := 16) rfl (fun K hK => ?_) ?_
                  · skip
                    go_simp
                    have S8 := Lib.hid (show Sl.Sep w _ [L4.boxR w.heap.size 31 #[.string name, .int .i64 ver, .slice (some sad) k sc, .slice (some uad) M uc], L4.boxR g1 49 #[.int .i64 0, .int .i64 0, .string ⟨#[]⟩], L4.boxR w5.heap.size 49 #[.int .i64 0, .int .i64 0, .string ⟨#[]⟩]] from L4.push_box S7.out 49 #[.int .i64 0, .int .i64 0, .string ⟨#[]⟩] w5.heap.size rfl)
                    clear S7
                    obtain ⟨g2, hg⟩ : ∃ g', g' = w5.heap.size := ⟨_, rfl⟩
                    rw [← hg] at S8 ⊢
                    clear hg
                    generalize w5.alloc (.cells #[.int .i64 0, .int .i64 0, .string ⟨#[]⟩] 49) = w6 at S8 ⊢
                    refine hK.out _ _ ⟨Bag.cs4 S8.out 0 rfl, HKu.out _ S8.out.old, HKx.out _ S8.out.old⟩ (fun hS => ?_)
                    clear hK K
                    try simp only [zp0, zp1, zp2, zp3, zp4]
                    refine Reg.one_op (i := 11) rfl (by kernel_rfl) (fun K hK => ?_)
                    go_simp
                    go_at_call 22
                    refine (HUF.out _ S8.out.old).mono ?_
                    rintro e w7 ⟨rfl, hb⟩
                    have S9 := Lib.hid (S8.out.keep hb)
                    clear S8
                    clear hb
                    go_wp2_with fail
                    refine hK.out _ _ ⟨Bag.cs4 S9.out 0 rfl, HKu.out _ S9.out.old, HKx.out _ S9.out.old⟩ (fun hS => ?_)
                    clear hK K
                    try simp only [zp0, zp1, zp2, zp3, zp4]
                    refine tk 12 rfl ?_
                    try simp only [zp0, zp1, zp2, zp3, zp4]
                    refine tk 13 rfl ?_
                    try simp only [zp0, zp1, zp2, zp3, zp4]
                    refine tk 14 rfl ?_
                    try simp only [zp0, zp1, zp2, zp3, zp4]
                    refine tk 15 rfl ?_
                    try simp only [zp0, zp1, zp2, zp3, zp4]
                    refine Reg.one_op (i := 18) rfl (by kernel_rfl) (fun K hK => ?_)
                    have hh := Bag.cs3 S9.out 2 rfl
                    have f0 := hh.1; have f1 := hh.2.1; have f2 := hh.2.2; clear hh
                    have hh := Bag.fs3 S9.out 2 rfl
                    have z0 := hh.1; have z1 := hh.2.1; have z2 := hh.2.2; clear hh
                    go_simp
                    clear f0 f1 f2 z0 z1 z2
                    have S10 := Lib.hid (show Sl.Sep w _ [L4.boxR w.heap.size 31 #[.string name, .int .i64 ver, .slice (some sad) k sc, .slice (some uad) M uc], L4.boxR g1 49 #[.int .i64 0, .int .i64 0, .string ⟨#[]⟩], L4.boxR g2 49 #[.int .i64 KA.kind, .int .i64 KA.n, .string KA.text]] from L5.put_box5 (L5.put_box5 (L5.put_box5 (S9.out) 2 rfl 0 (.int .i64 KA.kind)) 2 rfl 1 (.int .i64 KA.n)) 2 rfl 2 (.string KA.text))
                    clear S9
                    refine hK.out _ _ ⟨Bag.cs4 S10.out 0 rfl, HKu.out _ S10.out.old, HKx.out _ S10.out.old⟩ (fun hS => ?_)
                    clear hK K
                    try simp only [zp0, zp1, zp2, zp3, zp4]
                    refine Reg.one_op (i := 19) rfl (by kernel_rfl) (fun K hK => ?_)
                    have hh := Bag.cs3 S10.out 1 rfl
                    have f0 := hh.1; have f1 := hh.2.1; have f2 := hh.2.2; clear hh
                    have hh := Bag.fs3 S10.out 1 rfl
                    have z0 := hh.1; have z1 := hh.2.1; have z2 := hh.2.2; clear hh
                    go_simp
                    clear f0 f1 f2 z0 z1 z2
                    have S11 := Lib.hid (show Sl.Sep w _ [L4.boxR w.heap.size 31 #[.string name, .int .i64 ver, .slice (some sad) k sc, .slice (some uad) M uc], L4.boxR g1 49 #[.int .i64 KZ.kind, .int .i64 KZ.n, .string KZ.text], L4.boxR g2 49 #[.int .i64 KA.kind, .int .i64 KA.n, .string KA.text]] from L5.put_box5 (L5.put_box5 (L5.put_box5 (S10.out) 1 rfl 0 (.int .i64 KZ.kind)) 1 rfl 1 (.int .i64 KZ.n)) 1 rfl 2 (.string KZ.text))
                    clear S10
                    refine hK.out _ _ ⟨Bag.cs4 S11.out 0 rfl, HKu.out _ S11.out.old, HKx.out _ S11.out.old⟩ (fun hS => ?_)
                    clear hK K
                    try simp only [zp0, zp1, zp2, zp3, zp4]
                    refine tk 20 rfl ?_
                    try simp only [zp0, zp1, zp2, zp3, zp4]
                    refine wpAnyH_done (by kernel_rfl) ?_ _
                    have hh := Bag.cs4 S11.out 0 rfl
                    have f0 := hh.1; have f1 := hh.2.1; have f2 := hh.2.2.1; have f3 := hh.2.2.2; clear hh
                    have hh := Bag.cs3 S11.out 1 rfl
                    have f4 := hh.1; have f5 := hh.2.1; have f6 := hh.2.2; clear hh
                    have hh := Bag.cs3 S11.out 2 rfl
                    have f7 := hh.1; have f8 := hh.2.1; have f9 := hh.2.2; clear hh
                    have hh := HKu.out _ S11.out.old
                    have f10 := hh.1; have f11 := hh.2; clear hh
                    have hh := HKx.out _ S11.out.old
                    have f12 := hh.1; have f13 := hh.2.1; have f14 := hh.2.2; clear hh
                    clear f0 f1 f2 f3 f4 f5 f6 f7 f8 f9 f10 f11 f12 f13 f14
                    have S12 := Lib.hid (show Sl.Sep w _ [L4.boxR w.heap.size 31 #[.string name, .int .i64 ver, .slice (some sad) k sc, .slice (some uad) M uc]] from Bag.take S11.out [0] (by rfl) (by decide))
                    clear S11
                    go_wp2_with fail
                    go_meet
                    case rel => exact ⟨rfl, S12.out⟩
                  exact AllReadyH.nil
                exact AllReadyH.nil
              case rest =>
                obtain ⟨rfl, hq⟩ := hcut
                obtain ⟨ww, hww, hSS⟩ : ∃ u, u = _ ∧ Sl.Sep w u [L4.boxR w.heap.size 31 #[.string name, .int .i64 ver, .slice (some sad) k sc, .slice (some uad) M uc]] := ⟨_, rfl, hq.out⟩
                subst hww
                have S55 := Lib.hid hSS
                clear hSS hq S5
                have S56 := Lib.hid (show Sl.Sep w _ [L4.boxR w.heap.size 31 #[.string name, .int .i64 ver, .slice (some sad) k sc, .slice (some uad) M uc]] from Bag.take S55.out [0] (by rfl) (by decide))
                clear S55
                have S57 := Lib.hid (show Sl.Sep w _ [L4.boxR w.heap.size 31 #[.string name, .int .i64 ver, .slice (some sad) k sc, .slice (some uad) M uc]] from Bag.take S56.out [0] (by rfl) (by decide))
                clear S56
                have hh := Bag.cs4 S57.out 0 rfl
                have f0 := hh.1; have f1 := hh.2.1; have f2 := hh.2.2.1; have f3 := hh.2.2.2; clear hh
                have hh := HKu.out _ S57.out.old
                have f4 := hh.1; have f5 := hh.2; clear hh
                have hh := HKx.out _ S57.out.old
                have f6 := hh.1; have f7 := hh.2.1; have f8 := hh.2.2; clear hh
                cases bu with
                | true =>
                  have HNO := Lib.hid (show B = false from by rw [← HB.out]; unfold isD; dsimp only; rw [HS1.out, allTo_no j hjl (by rw [okUx_at HCu.out, HKP.out]; rfl)]; rfl)
                  go_wp2_with fail
                  go_ret
                  exact ⟨by rw [HNO.out] <;> rfl, S57.out.old⟩
                | false =>
                  go_wp2_with fail
                  clear f0 f1 f2 f3 f4 f5 f6 f7 f8
                  go_loopw [9] (fun i wr => ∃ g : Nat, g ≤ j ∧ i = .int .i64 g ∧ Hid ((∀ q (hq : q < us.length), q < g → eqX us[q] u = false) ∧ Sl.Sep w wr [L4.boxR w.heap.size 31 #[.string name, .int .i64 ver, .slice (some sad) k sc, .slice (some uad) M uc]])) (fun i _ => j - (intOf i).toNat)
                  case atStart => exact ⟨0, Nat.zero_le _, rfl, And.intro (fun j hj h => absurd h (by omega)) S57.out⟩
                  case round =>
                    obtain ⟨g, hg, rfl, hrel⟩ := hrel
                    have HG := Lib.hid hrel.out.1
                    have S58 := Lib.hid hrel.out.2
                    clear hrel S57
                    by_cases hlt3 : (g : Int) < (j : Int)
                    · skip
                      have hgl : g < us.length := by omega
                      have hgM : (g : Int) < (M : Int) := by omega
                      obtain ⟨v, hv⟩ : ∃ x, us[g]? = some x := ⟨_, List.getElem?_eq_getElem hgl⟩
                      have HKv := Lib.hid (fun w' (h : Below w.heap.size w w') => el2 cl_IndexDef_len (HU.out _ h) hv rfl)
                      have HFv := Lib.hid (HFD.out.unique _ (List.mem_of_getElem? hv))
                      have HCv := Lib.hid hv
                      clear hv
                      obtain ⟨be, hbe⟩ : ∃ b, eqX v u = b := ⟨_, rfl⟩
                      have HE := fun w => index_eq v u w
                      rw [hbe] at HE
                      have HBE := Lib.hid (show eqX us[g] u = be from by rw [(List.getElem?_eq_some_iff.1 HCv.out).2]; exact hbe)
                      clear hbe
                      cases be with
                      | true =>
                        have hh := Bag.cs4 S58.out 0 rfl
                        have f0 := hh.1; have f1 := hh.2.1; have f2 := hh.2.2.1; have f3 := hh.2.2.2; clear hh
                        have hh := HKu.out _ S58.out.old
                        have f4 := hh.1; have f5 := hh.2; clear hh
                        have hh := HKx.out _ S58.out.old
                        have f6 := hh.1; have f7 := hh.2.1; have f8 := hh.2.2; clear hh
                        have hh := HKv.out _ S58.out.old
                        have f9 := hh.1; have f10 := hh.2; clear hh
                        go_upto_region 18 with fail
                        clear f0 f1 f2 f3 f4 f5 f6 f7 f8 f9 f10
                        refine wp_region_held_drew (S := (fun w' => (World.cell? w' ⟨w.heap.size, 0, none⟩ = some (.string name) ∧ World.cell? w' ⟨w.heap.size, 1, none⟩ = some (.int .i64 ver) ∧ World.cell? w' ⟨w.heap.size, 2, none⟩ = some (.slice (some sad) k sc) ∧ World.cell? w' ⟨w.heap.size, 3, none⟩ = some (.slice (some uad) M uc)) ∧ (World.cell? w' (uad.add (j * 2)) = some (.string u.f_Store) ∧ World.cell? w' (⟨(uad.add (j * 2)).block, (uad.add (j * 2)).off + 1, none⟩) = some (.string u.f_Field)) ∧ (World.cell? w' (sad.add (i * 3)) = some (.string x.name) ∧ World.cell? w' (⟨(sad.add (i * 3)).block, (sad.add (i * 3)).off + 1, none⟩) = some (.slice x.a x.xs.length x.c) ∧ World.cell? w' (⟨(sad.add (i * 3)).block, (sad.add (i * 3)).off + 2, none⟩) = some (.int .i64 x.auto)) ∧ (World.cell? w' (uad.add (g * 2)) = some (.string v.f_Store) ∧ World.cell? w' (⟨(uad.add (g * 2)).block, (uad.add (g * 2)).off + 1, none⟩) = some (.string v.f_Field)))) (by kernel_rfl) ⟨Bag.cs4 (Bag.drew1 S58.out) 0 rfl, HKu.out _ (Bag.drew1 S58.out).old, HKx.out _ (Bag.drew1 S58.out).old, HKv.out _ (Bag.drew1 S58.out).old⟩ (fun hS => ?_)
                        have S59 := Lib.hid (show Sl.Sep w _ [L4.boxR w.heap.size 31 #[.string name, .int .i64 ver, .slice (some sad) k sc, .slice (some uad) M uc]] from Bag.drew1 S58.out)
                        clear S58
                        generalize World.drew _ = w4 at hS S59 ⊢
                        refine tk 0 rfl ?_
                        try simp only [zp0, zp1, zp2, zp3, zp4]
                        refine tk 1 rfl ?_
                        try simp only [zp0, zp1, zp2, zp3, zp4]
                        refine tk 2 rfl ?_
                        try simp only [zp0, zp1, zp2, zp3, zp4]
                        refine tk 3 rfl ?_
                        try simp only [zp0, zp1, zp2, zp3, zp4]
                        refine tk 4 rfl ?_
                        try simp only [zp0, zp1, zp2, zp3, zp4]
                        refine tk 5 rfl ?_
                        try simp only [zp0, zp1, zp2, zp3, zp4]
                        refine tk 6 rfl ?_
                        try simp only [zp0, zp1, zp2, zp3, zp4]
                        refine tk 7 rfl ?_
                        try simp only [zp0, zp1, zp2, zp3, zp4]
                        refine tk 8 rfl ?_
                        try simp only [zp0, zp1, zp2, zp3, zp4]
                        refine tk 9 rfl ?_
                        try simp only [zp0, zp1, zp2, zp3, zp4]
                        refine tk 10 rfl ?_
                        try simp only [zp0, zp1, zp2, zp3, zp4]
                        refine wpAnyH_done (by kernel_rfl) ?_ _
                        have hh := Bag.cs4 S59.out 0 rfl
                        have f0 := hh.1; have f1 := hh.2.1; have f2 := hh.2.2.1; have f3 := hh.2.2.2; clear hh
                        have hh := HKu.out _ S59.out.old
                        have f4 := hh.1; have f5 := hh.2; clear hh
                        have hh := HKx.out _ S59.out.old
                        have f6 := hh.1; have f7 := hh.2.1; have f8 := hh.2.2; clear hh
                        have hh := HKv.out _ S59.out.old
                        have f9 := hh.1; have f10 := hh.2; clear hh
                        have HNO := Lib.hid (show B = false from by rw [← HB.out]; unfold isD; dsimp only; rw [HS1.out, allTo_no j hjl (by rw [okUx_at HCu.out, HKP.out, fresh_no g hgl (by omega) HBE.out]; rfl)]; rfl)
                        go_wp2_with fail
                        go_ret
                        exact ⟨by rw [HNO.out] <;> rfl, S59.out.old⟩
                      | false =>
                        have hh := Bag.cs4 S58.out 0 rfl
                        have f0 := hh.1; have f1 := hh.2.1; have f2 := hh.2.2.1; have f3 := hh.2.2.2; clear hh
                        have hh := HKu.out _ S58.out.old
                        have f4 := hh.1; have f5 := hh.2; clear hh
                        have hh := HKx.out _ S58.out.old
                        have f6 := hh.1; have f7 := hh.2.1; have f8 := hh.2.2; clear hh
                        have hh := HKv.out _ S58.out.old
                        have f9 := hh.1; have f10 := hh.2; clear hh
                        go_upto_region 18 with fail
                        clear f0 f1 f2 f3 f4 f5 f6 f7 f8 f9 f10
                        refine wp_region_held_drew (S := (fun w' => (World.cell? w' ⟨w.heap.size, 0, none⟩ = some (.string name) ∧ World.cell? w' ⟨w.heap.size, 1, none⟩ = some (.int .i64 ver) ∧ World.cell? w' ⟨w.heap.size, 2, none⟩ = some (.slice (some sad) k sc) ∧ World.cell? w' ⟨w.heap.size, 3, none⟩ = some (.slice (some uad) M uc)) ∧ (World.cell? w' (uad.add (j * 2)) = some (.string u.f_Store) ∧ World.cell? w' (⟨(uad.add (j * 2)).block, (uad.add (j * 2)).off + 1, none⟩) = some (.string u.f_Field)) ∧ (World.cell? w' (sad.add (i * 3)) = some (.string x.name) ∧ World.cell? w' (⟨(sad.add (i * 3)).block, (sad.add (i * 3)).off + 1, none⟩) = some (.slice x.a x.xs.length x.c) ∧ World.cell? w' (⟨(sad.add (i * 3)).block, (sad.add (i * 3)).off + 2, none⟩) = some (.int .i64 x.auto)) ∧ (World.cell? w' (uad.add (g * 2)) = some (.string v.f_Store) ∧ World.cell? w' (⟨(uad.add (g * 2)).block, (uad.add (g * 2)).off + 1, none⟩) = some (.string v.f_Field)))) (by kernel_rfl) ⟨Bag.cs4 (Bag.drew1 S58.out) 0 rfl, HKu.out _ (Bag.drew1 S58.out).old, HKx.out _ (Bag.drew1 S58.out).old, HKv.out _ (Bag.drew1 S58.out).old⟩ (fun hS => ?_)
                        have S59 := Lib.hid (show Sl.Sep w _ [L4.boxR w.heap.size 31 #[.string name, .int .i64 ver, .slice (some sad) k sc, .slice (some uad) M uc]] from Bag.drew1 S58.out)
                        clear S58
                        generalize World.drew _ = w4 at hS S59 ⊢
                        refine tk 0 rfl ?_
                        try simp only [zp0, zp1, zp2, zp3, zp4]
                        refine tk 1 rfl ?_
                        try simp only [zp0, zp1, zp2, zp3, zp4]
                        refine tk 2 rfl ?_
                        try simp only [zp0, zp1, zp2, zp3, zp4]
                        refine tk 3 rfl ?_
                        try simp only [zp0, zp1, zp2, zp3, zp4]
                        refine tk 4 rfl ?_
                        try simp only [zp0, zp1, zp2, zp3, zp4]
                        refine tk 5 rfl ?_
                        try simp only [zp0, zp1, zp2, zp3, zp4]
                        refine tk 6 rfl ?_
                        try simp only [zp0, zp1, zp2, zp3, zp4]
                        refine tk 7 rfl ?_
                        try simp only [zp0, zp1, zp2, zp3, zp4]
                        refine tk 8 rfl ?_
                        try simp only [zp0, zp1, zp2, zp3, zp4]
                        refine tk 9 rfl ?_
                        try simp only [zp0, zp1, zp2, zp3, zp4]
                        refine tk 10 rfl ?_
                        try simp only [zp0, zp1, zp2, zp3, zp4]
                        refine wpAnyH_done (by kernel_rfl) ?_ _
                        have hh := Bag.cs4 S59.out 0 rfl
                        have f0 := hh.1; have f1 := hh.2.1; have f2 := hh.2.2.1; have f3 := hh.2.2.2; clear hh
                        have hh := HKu.out _ S59.out.old
                        have f4 := hh.1; have f5 := hh.2; clear hh
                        have hh := HKx.out _ S59.out.old
                        have f6 := hh.1; have f7 := hh.2.1; have f8 := hh.2.2; clear hh
                        have hh := HKv.out _ S59.out.old
                        have f9 := hh.1; have f10 := hh.2; clear hh
                        go_wp2_with fail
                        go_roundw
                        case rel => exact ⟨g + 1, by omega, by go_num, And.intro (fun q hq h => by
                          by_cases e : q < g
                          · exact HG.out q hq e
                          · obtain rfl : q = g := by omega
                            exact HBE.out) S59.out⟩
                        case measure => simp [intOf]; omega
                    · skip
                      obtain rfl : g = j := by omega
                      have hh := Bag.cs4 S58.out 0 rfl
                      have f0 := hh.1; have f1 := hh.2.1; have f2 := hh.2.2.1; have f3 := hh.2.2.2; clear hh
                      have hh := HKu.out _ S58.out.old
                      have f4 := hh.1; have f5 := hh.2; clear hh
                      have hh := HKx.out _ S58.out.old
                      have f6 := hh.1; have f7 := hh.2.1; have f8 := hh.2.2; clear hh
                      go_wp2_with fail
                      go_roundw
                      case rel => exact ⟨g + 1, by omega, by go_num, And.intro (fun q h => by
                        by_cases e : q < g
                        · exact HA.out q e
                        · obtain rfl : q = g := by omega
                          rw [okUx_at HCu.out, HKP.out, fresh_all HG.out]; rfl) S58.out⟩
                      case measure => simp [intOf]; omega
        · skip
          obtain rfl : j = M := by omega
          have HS2 := Lib.hid (show allTo (okUx (coS_Store ss) us) us.length = true from allTo_all (fun i hi => HA.out i (by have := HM.out; omega)))
          obtain ⟨bn, hbn⟩ : ∃ b, isN name.data.toList = b := ⟨_, rfl⟩
          have HIN := fun w => L5.specIsName_any name HFD.out.name w
          rw [hbn] at HIN
          replace HIN := Lib.hid HIN
          obtain ⟨ba, hba⟩ : ∃ b, L1.inB ver 0 1000 = b := ⟨_, rfl⟩
          have HIA := fun w => L1.l1In_any ver 0 1000 w
          rw [hba] at HIA
          replace HIA := Lib.hid HIA
          have HE := Lib.hid (show B = (bn && (ba && (decide (k ≤ 4) && decide (j ≤ 4)))) from by rw [← HB.out]; unfold isD; dsimp only; rw [HS1.out, HS2.out, hbn, hba, HSL.out, ← HM.out]; rfl)
          clear hbn hba
          have hh := Bag.cs4 S3.out 0 rfl
          have f0 := hh.1; have f1 := hh.2.1; have f2 := hh.2.2.1; have f3 := hh.2.2.2; clear hh
          cases bn with
          | false =>
            go_wp2_with fail
            go_at_call 21
            refine (HIN.out _).mono ?_
            rintro e w1 ⟨rfl, rfl⟩
            go_wp2_with fail
            go_ret
            exact ⟨by rw [HE.out] <;> rfl, S3.out.old⟩
          | true =>
            go_wp2_with fail
            go_at_call 21
            refine (HIN.out _).mono ?_
            rintro e w1 ⟨rfl, rfl⟩
            cases ba with
            | false =>
              go_wp2_with fail
              go_at_call 23
              refine (HIA.out _).mono ?_
              rintro e w2 ⟨rfl, rfl⟩
              go_wp2_with fail
              go_ret
              exact ⟨by rw [HE.out] <;> rfl, S3.out.old⟩
            | true =>
              go_wp2_with fail
              go_at_call 23
              refine (HIA.out _).mono ?_
              rintro e w2 ⟨rfl, rfl⟩
              by_cases h4 : (k : Int) ≤ 4
              · have h4' : k ≤ 4 := by omega
                go_wp2_with fail
                go_ret
                exact ⟨by rw [HE.out, decide_eq_true h4', show decide (j ≤ 4) = decide ((j : Int) ≤ 4) from by simp only [decide_eq_decide]; omega] <;> rfl, S3.out.old⟩
              · have h4' : ¬ k ≤ 4 := by omega
                go_wp2_with fail
                go_ret
                exact ⟨by rw [HE.out, decide_eq_false h4'] <;> rfl, S3.out.old⟩
end Go.Proofs.Ytboefioalkjdaaa.L8

/-
  Words for the library's functions over slices of any type: parts of slices, places, what stays; an append within a row of one's own. No condition.
-/
namespace Go.Proofs.Ytboefioalkjdaaa.V
set_option maxRecDepth 100000
open Go.ChangeShapes Go.WideShapes Go.ChangeAt Go.RowKit Mem Sl Sv Bag
set_option linter.unusedVariables false
set_option linter.unusedSimpArgs false

section
variable {α : Type} {cl : α → List Value} {m : Nat} {w : World} {B k g : Nat} {xs : List α}
theorem reads_pre {a : Option Addr} {vs us : List Value} (h : Reads w B a (vs ++ us)) : Reads w B a vs := fun j hj => by
  obtain ⟨ad, e, hb, hc⟩ := h j (by rw [List.length_append]; omega)
  exact ⟨ad, e, hb, by rw [hc, List.getElem_append_left hj]⟩
theorem reads_take {a : Option Addr} (h : Reads w B a (xs.flatMap cl)) (k : Nat) : Reads w B a ((xs.take k).flatMap cl) := by
  have e : xs.flatMap cl = (xs.take k).flatMap cl ++ (xs.drop k).flatMap cl := by rw [← List.flatMap_append, List.take_append_drop]
  rw [e] at h
  exact reads_pre h
theorem take_len (hk : k ≤ xs.length) : (xs.take k).length = k := by rw [List.length_take, Nat.min_eq_left hk]
end
def ixV {α : Type} (f : α → Bool) (xs : List α) : Int := match xs.findIdx? f with
  | some i => i
  | none => -1
theorem ixV_at {α : Type} {f : α → Bool} {xs : List α} (i : Nat) (x : α) (hx : xs[i]? = some x) (h : f x = true) (ha : ∀ (j : Nat) (y : α), xs[j]? = some y → j < i → f y = false) : ixV f xs = i := by
  obtain ⟨hi, rfl⟩ := List.getElem?_eq_some_iff.1 hx
  unfold ixV
  rw [show xs.findIdx? f = some i from by
    rw [List.findIdx?_eq_some_iff_getElem]
    exact ⟨hi, h, fun j hj => by rw [ha j _ (List.getElem?_eq_getElem (by omega)) hj]; simp⟩]
theorem ixV_none {α : Type} {f : α → Bool} {xs : List α} (ha : ∀ (j : Nat) (y : α), xs[j]? = some y → f y = false) : ixV f xs = -1 := by
  unfold ixV
  rw [show xs.findIdx? f = none from by
    rw [List.findIdx?_eq_none_iff]
    intro x hx
    obtain ⟨j, hj, rfl⟩ := List.getElem_of_mem hx
    exact ha j _ (List.getElem?_eq_getElem hj)]
def stays {α : Type} (f : α → Bool) (ys : List α) : List α := ys.filter fun x => !f x
section
variable {P : Program} {W w : World} {rs : List Res} {e : TypeId} {k c n g : Nat} {xs : List Value}
end
end Go.Proofs.Ytboefioalkjdaaa.V

/-
  The contracts of the library's functions of slices over Store. Condition: at most 2^20 elements. (Written by my program gen_vl.py.)
-/
namespace Go.Proofs.Ytboefioalkjdaaa.V
set_option maxRecDepth 100000
open Go.ChangeShapes Go.WideShapes Go.ChangeAt Go.RowKit Mem Sl Sv Bag
set_option linter.unusedVariables false
set_option linter.unusedSimpArgs false
def Tests_Store (Fn g : Nat) (f : L6.LS → Bool) (xs : List L6.LS) (w : World) : Prop :=
  ∀ x ∈ xs, ∀ w', Below w.heap.size w w' → Calls Try.prog Fn #[vv_Store x, .pointer (some ⟨g, 0, none⟩)] w' fun e w'' => e = .returned (.bool (f x)) ∧ Below w'.heap.size w' w''
def TestsC_Store (Fn g : Nat) (f : L6.LS → Bool) (xs : List L6.LS) (w : World) : Prop :=
  ∀ x ∈ xs, ∀ w', w.heap.size ≤ w'.heap.size → w'.heap[g]? = w.heap[g]? → Calls Try.prog Fn #[vv_Store x, .pointer (some ⟨g, 0, none⟩)] w' fun e w'' => e = .returned (.bool (f x)) ∧ Below w'.heap.size w' w''
theorem TestsC_Store.below {Fn g : Nat} {f : L6.LS → Bool} {xs : List L6.LS} {w : World} (h : TestsC_Store Fn g f xs w) (hg : g < w.heap.size) : Tests_Store Fn g f xs w := fun x hx w' hb => h x hx w' hb.size (hb.block g hg)
set_option maxHeartbeats 2000000 in
theorem indexFunc_Store (g : Nat) (f : L6.LS → Bool) (a : Option Addr) (c : Nat) (xs : List L6.LS) (hl : xs.length ≤ 1048576) (w : World) (hr : Reads w w.heap.size a ((xs).flatMap cl_Store)) (hp : Tests_Store 33 g f xs w) :
    Calls Try.prog 32 #[.slice a xs.length c, .func (.func 33) #[] #[.pointer (some ⟨g, 0, none⟩)]] w fun e w' => e = .returned (.int .i64 (ixV f xs)) ∧ Below w.heap.size w w' := by
  have HR := Lib.hid (fun w' (h : Below w.heap.size w w') => hr.below h)
  have HP := Lib.hid hp
  obtain ⟨N, hN⟩ : ∃ n, n = xs.length := ⟨_, rfl⟩
  rw [← hN] at hl ⊢
  have hl' : (N : Int) ≤ 1048576 := by omega
  have HN := Lib.hid hN
  clear hN hr hp
  have S1 := Lib.hid (show Sl.Sep w w [] from Sl.Sep.start w)
  go_enter Try.func32, Try.ntmps32
  go_wp2_with fail
  go_loopw [8] (fun i wr => ∃ k : Nat, k ≤ N ∧ i = .int .i64 k ∧ Hid ((∀ (j : Nat) (y : L6.LS), xs[j]? = some y → j < k → f y = false) ∧ Sl.Sep w wr [])) (fun i _ => N - (intOf i).toNat)
  case atStart => exact ⟨0, Nat.zero_le _, rfl, And.intro (fun j y hj h => absurd h (by omega)) S1.out⟩
  case round =>
    obtain ⟨k, hk, rfl, hrel⟩ := hrel
    have HA := Lib.hid hrel.out.1
    have S2 := Lib.hid hrel.out.2
    clear hrel S1
    by_cases hlt : (k : Int) < (N : Int)
    · skip
      have hkl : k < xs.length := by have := HN.out; omega
      obtain ⟨x, hx⟩ : ∃ x, xs[k]? = some x := ⟨_, List.getElem?_eq_getElem hkl⟩
      obtain ⟨ad, e'⟩ := el_some cl_Store_len (by decide) (HR.out _ S2.out.old) hkl
      subst e'
      have HKx := Lib.hid (fun w' (h : Below w.heap.size w w') => el3 cl_Store_len (HR.out _ h) hx rfl)
      have HXx := Lib.hid hx
      clear hx
      have HPX := fun w' (h : Below w.heap.size w w') => HP.out x (List.mem_of_getElem? HXx.out) w' h
      dsimp only [vv_Store] at HPX
      obtain ⟨b, hb⟩ : ∃ b, f x = b := ⟨_, rfl⟩
      rw [hb] at HPX
      replace HPX := Lib.hid HPX
      have HB := Lib.hid hb
      clear hb
      have hh := HKx.out _ S2.out.old
      have f0 := hh.1; have f1 := hh.2.1; have f2 := hh.2.2; clear hh
      go_wp2_with fail
      go_at_call 33
      refine (HPX.out _ S2.out.old).mono ?_
      rintro e w3 ⟨rfl, hb⟩
      clear f0 f1 f2
      have S3 := Lib.hid (S2.out.keep hb)
      clear S2
      clear hb
      cases b with
      | true =>
        go_wp2_with fail
        go_ret
        exact ⟨by rw [ixV_at k _ HXx.out HB.out HA.out]; rfl, S3.out.old⟩
      | false =>
        go_wp2_with fail
        go_roundw
        case rel => exact ⟨k + 1, by omega, by go_num, And.intro (fun j y hj h => by
          by_cases e : j < k
          · exact HA.out j y hj e
          · obtain rfl : j = k := by omega
            rw [HXx.out] at hj; rw [← Option.some.inj hj]; exact HB.out) S3.out⟩
        case measure => simp [intOf]; omega
    · skip
      go_wp2_with fail
      go_ret
      obtain rfl : k = N := by omega
      exact ⟨by rw [ixV_none (fun j y hj => HA.out j y hj (by have := HN.out; have := (List.getElem?_eq_some_iff.1 hj).1; omega))]; rfl, S2.out.old⟩
end Go.Proofs.Ytboefioalkjdaaa.V

/-
  The contracts of the library's functions of slices over IndexDef. Condition: at most 2^20 elements. (Written by my program gen_vl.py.)
-/
namespace Go.Proofs.Ytboefioalkjdaaa.V
set_option maxRecDepth 100000
open Go.ChangeShapes Go.WideShapes Go.ChangeAt Go.RowKit Mem Sl Sv Bag
set_option linter.unusedVariables false
set_option linter.unusedSimpArgs false
def Tests_IndexDef (Fn g : Nat) (f : X_IndexDef → Bool) (xs : List X_IndexDef) (w : World) : Prop :=
  ∀ x ∈ xs, ∀ w', Below w.heap.size w w' → Calls Try.prog Fn #[vv_IndexDef x, .pointer (some ⟨g, 0, none⟩)] w' fun e w'' => e = .returned (.bool (f x)) ∧ Below w'.heap.size w' w''
def TestsC_IndexDef (Fn g : Nat) (f : X_IndexDef → Bool) (xs : List X_IndexDef) (w : World) : Prop :=
  ∀ x ∈ xs, ∀ w', w.heap.size ≤ w'.heap.size → w'.heap[g]? = w.heap[g]? → Calls Try.prog Fn #[vv_IndexDef x, .pointer (some ⟨g, 0, none⟩)] w' fun e w'' => e = .returned (.bool (f x)) ∧ Below w'.heap.size w' w''
theorem TestsC_IndexDef.below {Fn g : Nat} {f : X_IndexDef → Bool} {xs : List X_IndexDef} {w : World} (h : TestsC_IndexDef Fn g f xs w) (hg : g < w.heap.size) : Tests_IndexDef Fn g f xs w := fun x hx w' hb => h x hx w' hb.size (hb.block g hg)
end Go.Proofs.Ytboefioalkjdaaa.V

/-
  The contract of chapter 5's copyRecord of the program. Condition: at most 2^40 fields. (Written by my program gen_l5cp.py.)
-/
namespace Go.Proofs.Ytboefioalkjdaaa.L5
set_option maxRecDepth 100000
open L4 (boxR push_box box_at)
open Go.ChangeShapes Go.WideShapes Go.ChangeAt Go.RowKit Mem Sl Ex L2 Sv Bag Run
set_option linter.unusedVariables false
set_option linter.unusedSimpArgs false

set_option maxHeartbeats 1000000 in
theorem copyRecord_any (a : Option Addr) (c : Nat) (l : List F) (hl : l.length ≤ 1099511627776) (w : World) (hr : Reads w w.heap.size a (cellsF l)) :
    Calls Try.prog 118 #[.agg #[.slice a l.length c]] w fun e w' => ∃ a' c', e = .returned (.agg #[.slice a' l.length c']) ∧ OwnV w' w.heap.size 92 2 a' c' l.length (cellsF l) ∧ Below w.heap.size w w' := by
  obtain ⟨i0, hi, hz0, hz1, hz2⟩ := fieldInfo
  obtain ⟨n, hn⟩ : ∃ n, n = l.length := ⟨_, rfl⟩
  rw [← hn] at hl ⊢
  have HR := Lib.hid (fun w' (h : Below w.heap.size w w') => hr.below h)
  have HC := Lib.hid (show (cellsF l).length = Nat.min n n * 2 by rw [cellsF_length, hn, show Nat.min l.length l.length = l.length from Nat.min_self _])
  have HM := Lib.hid (show (madeCells (Value.agg #[.string ⟨#[]⟩, .int .i64 0]).cells (n * 2)).toList.length = (cellsF l).length by rw [cellsF_length, ← hn]; simp [madeCells])
  have HI := Lib.hid (And.intro hi (And.intro hz0 (And.intro hz1 hz2)))
  have hl' : (n : Int) ≤ 1099511627776 := by omega
  clear hn hr hi hz0 hz1 hz2
  have S1 := Lib.hid (show Sl.Sep w ((w.alloc (.cells #[.slice a n c] 70)).alloc (.cells #[.slice none 0 0] 70)) [L4.boxR w.heap.size 70 #[.slice a n c], L4.boxR (w.heap.size + 1) 70 #[.slice none 0 0]] from L4.push_box (L4.push_box (Sl.Sep.start w) 70 #[.slice a n c] (w.heap.size) (by simp)) 70 #[.slice none 0 0] (w.heap.size + 1) (by simp))
  obtain ⟨wa, hwa⟩ : ∃ u, u = ((w.alloc (.cells #[.slice a n c] 70)).alloc (.cells #[.slice none 0 0] 70)) := ⟨_, rfl⟩
  rw [← hwa] at S1
  go_enter Try.func118, Try.ntmps118
  go_upto_region 1 with fail
  rw [← hwa]
  clear hwa
  have f0 : World.cell? _ ⟨w.heap.size, 0, none⟩ = some (.slice a n c) := Bag.cell_at S1.out 0 rfl 0 rfl
  have f1 : World.cell? _ ⟨w.heap.size + 1, 0, none⟩ = some (.slice none 0 0) := Bag.cell_at S1.out 1 rfl 0 rfl
  go_upto_region 2 with (at_make; refine wpList_make_s S1.out rfl _ _ 68 rfl 92 i0 (.agg #[.string ⟨#[]⟩, .int .i64 0]) 2 Try.underlying68 HI.out.1 HI.out.2.1 HI.out.2.2.1 _ _ n rfl rfl (by rw [HI.out.2.2.2]; omega) (by unfold maxLen; omega) ?_; intro w1 S')
  clear f0 f1
  obtain ⟨g1, hg⟩ : ∃ g', g' = wa.heap.size := ⟨_, rfl⟩
  rw [← hg] at S' ⊢
  clear hg
  have S2 := Lib.hid (show Sl.Sep w _ [L4.boxR w.heap.size 70 #[.slice a n c], L4.boxR (w.heap.size + 1) 70 #[.slice none 0 0], Sv.ownV 92 2 (some ⟨g1, 0, none⟩) n n ((madeCells (Value.agg #[.string ⟨#[]⟩, .int .i64 0]).cells (n * 2)).toList)] from S')
  clear S1
  clear S'
  have f0 : World.cell? _ ⟨w.heap.size, 0, none⟩ = some (.slice a n c) := Bag.cell_at S2.out 0 rfl 0 rfl
  have f1 : World.cell? _ ⟨w.heap.size + 1, 0, none⟩ = some (.slice none 0 0) := Bag.cell_at S2.out 1 rfl 0 rfl
  have hcp := fun ty => run_copy_s (P := Try.prog) S2.out 2 rfl 68 68 ty i0 Try.underlying68 HI.out.1 HI.out.2.2.1 0 n n n c a (cellsF l) HC.out w.heap.size (HR.out _ S2.out.old) (by rw [HM.out]; omega) (cellsF_one l)
  obtain ⟨w2, hw⟩ : ∃ u, u = World.setCells w1 g1 0 (cellsF l) := ⟨_, rfl⟩
  rw [← hw] at hcp
  have HW := Lib.hid hw
  clear hw
  go_upto_region 3 with fail
  clear f0 f1
  have S3 := Lib.hid (show Sl.Sep w _ [L4.boxR w.heap.size 70 #[.slice a n c], L4.boxR (w.heap.size + 1) 70 #[.slice none 0 0], Sv.ownV 92 2 (some ⟨g1, 0, none⟩) n n (cellsF l)] from (by have h := Run.put_run S2.out 2 rfl 0 (cellsF l) (by rw [HM.out]; omega); rw [← HW.out, over_all _ _ HM.out] at h; exact h))
  clear S2
  clear hcp HW
  have f0 : World.cell? _ ⟨w.heap.size, 0, none⟩ = some (.slice a n c) := Bag.cell_at S3.out 0 rfl 0 rfl
  have f1 : World.cell? _ ⟨w.heap.size + 1, 0, none⟩ = some (.slice none 0 0) := Bag.cell_at S3.out 1 rfl 0 rfl
  have z0 := Bag.free_at S3.out 1 rfl 0
  go_wp2_with fail
  clear f0 f1 z0
  have S4 := Lib.hid (show Sl.Sep w _ [L4.boxR w.heap.size 70 #[.slice a n c], L4.boxR (w.heap.size + 1) 70 #[.slice (some ⟨g1, 0, none⟩) n n], Sv.ownV 92 2 (some ⟨g1, 0, none⟩) n n (cellsF l)] from L5.put_box5 (S3.out) 1 rfl 0 (.slice (some ⟨g1, 0, none⟩) n n))
  clear S3
  have f0 : World.cell? _ ⟨w.heap.size + 1, 0, none⟩ = some (.slice (some ⟨g1, 0, none⟩) n n) := Bag.cell_at S4.out 1 rfl 0 rfl
  refine bodyPost_ret (v := .agg #[.slice (some ⟨g1, 0, none⟩) n n]) (by simp [results, Try.results118, go_sem, *]) rfl ?_
  exact ⟨_, _, rfl, Sv.own_from S4.out 2 rfl, S4.out.old⟩
end Go.Proofs.Ytboefioalkjdaaa.L5

/-
  The contracts of chapter 6's functions of the program: copyItem, copyStore. Conditions: keys' texts of at most 2^40 bytes, at most 2^20 fields and items. (Written by my program gen_l6g.py.)
-/
namespace Go.Proofs.Ytboefioalkjdaaa.L6
set_option maxRecDepth 100000
open L4 (K isK cmpK R inR encU)
open L5 (F isR isN cellsF encR eqR Small)
open Go.ChangeShapes Go.WideShapes Go.ChangeAt Go.RowKit Mem Sl Ex L2 Sv Bag
set_option linter.unusedVariables false
set_option linter.unusedSimpArgs false

set_option maxHeartbeats 2000000 in
theorem copyItem_any (kd n : Int) (s : ByteArray) (a : Option Addr) (c : Nat) (l : List F) (hl : l.length ≤ 1048576) (w : World) (hr : Reads w w.heap.size a (cellsF l)) :
    Calls Try.prog 114 #[.agg #[.int .i64 kd, .int .i64 n, .string s, .slice a l.length c]] w (GaveI w ⟨⟨kd, n, s⟩, l⟩) := by
  have HC := Lib.hid (fun w' (h : Below w.heap.size w w') => L5.copyRecord_any a c l (by have := hl; omega) w' ((hr.below h).more h.size))
  obtain ⟨N, hN⟩ : ∃ n, n = l.length := ⟨_, rfl⟩
  rw [← hN] at HC ⊢
  have HN := Lib.hid hN
  clear hN hr hl
  have S1 := Lib.hid (show Sl.Sep w ((w.alloc (.cells #[.int .i64 kd, .int .i64 n, .string s, .slice a N c] 72)).alloc (.cells #[.int .i64 0, .int .i64 0, .string ⟨#[]⟩, .slice none 0 0] 72)) [L4.boxR w.heap.size 72 #[.int .i64 kd, .int .i64 n, .string s, .slice a N c], L4.boxR (w.heap.size + 1) 72 #[.int .i64 0, .int .i64 0, .string ⟨#[]⟩, .slice none 0 0]] from L4.push_box (L4.push_box (Sl.Sep.start w) 72 #[.int .i64 kd, .int .i64 n, .string s, .slice a N c] (w.heap.size) (by simp)) 72 #[.int .i64 0, .int .i64 0, .string ⟨#[]⟩, .slice none 0 0] (w.heap.size + 1) (by simp))
  obtain ⟨wa, hwa⟩ : ∃ u, u = ((w.alloc (.cells #[.int .i64 kd, .int .i64 n, .string s, .slice a N c] 72)).alloc (.cells #[.int .i64 0, .int .i64 0, .string ⟨#[]⟩, .slice none 0 0] 72)) := ⟨_, rfl⟩
  rw [← hwa] at S1
  go_enter Try.func114, Try.ntmps114
  go_upto_region 1 with fail
  rw [← hwa]
  clear hwa
  go_upto_region 1 with fail
  refine wp_region_held_drew (S := (fun w' => (World.cell? w' ⟨w.heap.size, 0, none⟩ = some (.int .i64 kd) ∧ World.cell? w' ⟨w.heap.size, 1, none⟩ = some (.int .i64 n) ∧ World.cell? w' ⟨w.heap.size, 2, none⟩ = some (.string s) ∧ World.cell? w' ⟨w.heap.size, 3, none⟩ = some (.slice a N c)))) (by kernel_rfl) (Bag.cs4 (Bag.drew1 S1.out) 0 rfl) (fun hS => ?_)
  have S2 := Lib.hid (show Sl.Sep w _ [L4.boxR w.heap.size 72 #[.int .i64 kd, .int .i64 n, .string s, .slice a N c], L4.boxR (w.heap.size + 1) 72 #[.int .i64 0, .int .i64 0, .string ⟨#[]⟩, .slice none 0 0]] from Bag.drew1 S1.out)
  clear S1
  generalize World.drew _ = w1 at hS S2 ⊢
  refine tk 0 rfl ?_
  try simp only [zp0, zp1, zp2, zp3, zp4]
  refine tk 1 rfl ?_
  try simp only [zp0, zp1, zp2, zp3, zp4]
  refine tk 2 rfl ?_
  try simp only [zp0, zp1, zp2, zp3, zp4]
  refine tk 3 rfl ?_
  try simp only [zp0, zp1, zp2, zp3, zp4]
  refine Reg.one_op (i := 4) rfl (by kernel_rfl) (fun K hK => ?_)
  go_simp
  go_at_call 118
  refine (HC.out _ S2.out.old).mono ?_
  rintro e w2 ⟨a1, c1, rfl, ho, hb⟩
  have S3 := Lib.hid (show Sl.Sep w _ [L4.boxR w.heap.size 72 #[.int .i64 kd, .int .i64 n, .string s, .slice a N c], L4.boxR (w.heap.size + 1) 72 #[.int .i64 0, .int .i64 0, .string ⟨#[]⟩, .slice none 0 0], Sv.ownV 92 2 a1 c1 N (cellsF l)] from Sv.push_own S2.out hb ho)
  clear S2
  clear hb ho
  go_wp2_with fail
  refine hK.out _ _ (Bag.cs4 S3.out 0 rfl) (fun hS => ?_)
  clear hK K
  try simp only [zp0, zp1, zp2, zp3, zp4]
  refine tk 5 rfl ?_
  try simp only [zp0, zp1, zp2, zp3, zp4]
  refine Reg.one_op (i := 6) rfl (by kernel_rfl) (fun K hK => ?_)
  have hh := Bag.cs4 S3.out 1 rfl
  have f0 := hh.1; have f1 := hh.2.1; have f2 := hh.2.2.1; have f3 := hh.2.2.2; clear hh
  have hh := Bag.fs4 S3.out 1 rfl
  have z0 := hh.1; have z1 := hh.2.1; have z2 := hh.2.2.1; have z3 := hh.2.2.2; clear hh
  go_simp
  clear f0 f1 f2 f3 z0 z1 z2 z3
  have S4 := Lib.hid (show Sl.Sep w _ [L4.boxR w.heap.size 72 #[.int .i64 kd, .int .i64 n, .string s, .slice a N c], L4.boxR (w.heap.size + 1) 72 #[.int .i64 kd, .int .i64 n, .string s, .slice a1 N c1], Sv.ownV 92 2 a1 c1 N (cellsF l)] from L5.put_box5 (L5.put_box5 (L5.put_box5 (L5.put_box5 (S3.out) 1 rfl 0 (.int .i64 kd)) 1 rfl 1 (.int .i64 n)) 1 rfl 2 (.string s)) 1 rfl 3 (.slice a1 N c1))
  clear S3
  refine hK.out _ _ (Bag.cs4 S4.out 0 rfl) (fun hS => ?_)
  clear hK K
  try simp only [zp0, zp1, zp2, zp3, zp4]
  refine wpAnyH_done (by kernel_rfl) ?_ _
  have hh := Bag.cs4 S4.out 0 rfl
  have f0 := hh.1; have f1 := hh.2.1; have f2 := hh.2.2.1; have f3 := hh.2.2.2; clear hh
  have hh := Bag.cs4 S4.out 1 rfl
  have f4 := hh.1; have f5 := hh.2.1; have f6 := hh.2.2.1; have f7 := hh.2.2.2; clear hh
  go_wp2_with fail
  refine bodyPost_ret (v := .agg #[.int .i64 kd, .int .i64 n, .string s, .slice a1 N c1]) (by simp [results, Try.results114, go_sem, *]) rfl ?_
  have hb := Bag.bag_from (Bag.bag_of_one S4.out 2 (r := (LI.mk ⟨kd, n, s⟩ a1 c1 l).row) (by show some _ = some _; rw [HN.out]; rfl)) 2 rfl
  exact ⟨a1, c1, by rw [HN.out], hb, S4.out.old⟩
end Go.Proofs.Ytboefioalkjdaaa.L6

/-
  The contract of chapter 4's isLetter of the program (over any seat). No condition.
-/
namespace Go.Proofs.Ytboefioalkjdaaa.L4
set_option maxRecDepth 100000
open Go.ChangeShapes Go.WideShapes Go.ChangeAt Go.RowKit Mem Sl Ex L2
set_option linter.unusedVariables false
def isLet (c : UInt8) : Bool := decide (97 ≤ c.toNat) && decide (c.toNat ≤ 122)
theorem isLetter_any (c : UInt8) (w : World) :
    Calls Try.prog 49 #[.int .u8 c.toNat] w fun e w' => e = .returned (.bool (isLet c)) ∧ w = w' := by
  by_cases h1 : (97 : Int) ≤ c.toNat <;> by_cases h2 : (c.toNat : Int) ≤ 122 <;>
    (go_enter Try.func49, Try.ntmps49
     go_wp2
     go_ret
     exact ⟨L1.ret_bool (by unfold isLet; have h1' := h1; have h2' := h2; simp only [Bool.false_eq, Bool.true_eq, Bool.and_eq_false_iff, Bool.and_eq_true, decide_eq_false_iff_not, decide_eq_true_eq]; omega), rfl⟩)
end Go.Proofs.Ytboefioalkjdaaa.L4

/-
  The contracts of chapter 5's functions of the program that only read: IsName, GetField, copyRecord. Conditions: a name of at most 2^48 bytes, a record of at most 2^40 fields.
-/
namespace Go.Proofs.Ytboefioalkjdaaa.L5
set_option maxRecDepth 100000
open Go.Op (bytesLess)
open Go.ChangeShapes Go.WideShapes Go.ChangeAt Go.RowKit Mem Sl Ex L2 Sv
set_option linter.unusedVariables false

theorem low_isLet (c : UInt8) : L4.isLet c = low c := rfl
theorem isName_any (s : ByteArray) (hs : s.size ≤ 281474976710656) (w : World) :
    Calls Try.prog 26 #[.string s] w fun e w' => e = .returned (.bool (isN s.data.toList)) ∧ w = w' := by
  have hsz : s.data.toList.length = s.size := by rw [Array.length_toList]; rfl
  have HZ := Lib.hid hsz
  clear hsz
  have HI := Lib.hid (fun w => L1.inRange_any (s.size : Int) 1 8 w)
  have HS := Lib.hid (show L1.inB (s.size : Int) 1 8 = false → isN s.data.toList = false from fun h => by
    unfold isN
    rw [Bool.and_eq_false_iff]
    right
    rw [HZ.out, ← h]
    unfold L1.inB
    congr 1 <;> (rw [decide_eq_decide]; omega))
  obtain ⟨bi, hbi⟩ : ∃ b, L1.inB (s.size : Int) 1 8 = b := ⟨_, rfl⟩
  rw [hbi] at HI HS
  have HB0 := Lib.hid hbi
  clear hbi
  cases bi with
  | false =>
    replace HS := Lib.hid (HS.out rfl)
    go_enter Try.func26, Try.ntmps26
    go_wp2_with (go_at_call 27; refine (HI.out _).mono ?_; rintro e w1 ⟨rfl, rfl⟩)
    go_ret
    exact ⟨by rw [HS.out]; rfl, rfl⟩
  | true =>
    go_enter Try.func26, Try.ntmps26
    go_wp2_with (go_at_call 27; refine (HI.out _).mono ?_; rintro e w1 ⟨rfl, rfl⟩)
    go_loop [10] (fun i => ∃ k : Nat, k ≤ s.size ∧ i = .int .i64 k ∧ Hid (∀ j (hj : j < s.data.toList.length), j < k → low s.data.toList[j] = true)) (fun i => s.size - (intOf i).toNat)
    case atStart => exact ⟨0, Nat.zero_le _, rfl, fun j hj h => by omega⟩
    case round =>
      obtain ⟨k, hk, rfl, hrel⟩ := hrel
      by_cases hlt : k < s.size
      · have hb : s.data.toList[k]? = some s[k] := by
          rw [List.getElem?_eq_getElem (by rw [HZ.out]; exact hlt)]
          rfl
        have HB := Lib.hid hb
        clear hb
        have H1 := Lib.hid (fun w => L4.isLetter_any s[k] w)
        obtain ⟨bl, hbl⟩ : ∃ b, L4.isLet s[k] = b := ⟨_, rfl⟩
        rw [hbl] at H1
        rw [low_isLet] at hbl
        have HL := Lib.hid hbl
        clear hbl
        cases bl with
        | true =>
          go_wp2_with (go_at_call 49; refine (H1.out _).mono ?_; rintro e w1 ⟨rfl, rfl⟩)
          go_round
          case rel => exact ⟨k + 1, by omega, by go_num, fun j hj h => by
              by_cases e : j < k
              · exact hrel.out j hj e
              · obtain rfl : j = k := by omega
                have := HB.out
                rw [List.getElem?_eq_getElem hj] at this
                rw [Option.some.inj this]
                exact HL.out⟩
          case measure => simp [intOf]; omega
        | false =>
          go_wp2_with (go_at_call 49; refine (H1.out _).mono ?_; rintro e w1 ⟨rfl, rfl⟩)
          go_ret
          exact ⟨by rw [isN_no k _ HB.out HL.out]; rfl, rfl⟩
      · go_wp2_with fail
        go_ret
        obtain rfl : k = s.size := by omega
        have e1 := isN_all (fun j hj => hrel.out j hj (by rw [HZ.out] at hj; exact hj))
        rw [HZ.out, HB0.out] at e1
        exact ⟨by rw [e1]; rfl, rfl⟩

set_option maxHeartbeats 1000000 in
theorem getField_any (a : Option Addr) (c : Nat) (l : List F) (s : ByteArray) (hl : l.length ≤ 1099511627776) (w : World) (hr : Reads w w.heap.size a (cellsF l)) :
    Calls Try.prog 104 #[.agg #[.slice a l.length c], .string s] w fun e w' => e = .returned (.tuple #[.int .i64 (getN l s.data.toList), .bool (getB l s.data.toList)]) ∧ Below w.heap.size w w' := by
  have HBL := Lib.hid (below_alloc (Below.refl w.heap.size w) (.cells #[.slice a l.length c] 70) (Nat.le_refl _))
  have HR := Lib.hid (fun w' (h : Below w.heap.size w w') => hr.below h)
  obtain ⟨n, hn⟩ : ∃ n, n = l.length := ⟨_, rfl⟩
  rw [← hn] at HBL ⊢
  rw [← hn] at hl
  have HN := Lib.hid hn
  clear hn hr
  have hl' : (n : Int) ≤ 1099511627776 := by omega
  go_enter Try.func104, Try.ntmps104
  go_wp2_with fail
  go_loopw [11] (fun i wr => ∃ k : Nat, k ≤ n ∧ i = .int .i64 k ∧ Hid (Below w.heap.size w wr ∧ ∀ j (hj : j < l.length), j < k → l[j].t ≠ s.data.toList)) (fun i _ => n - (intOf i).toNat)
  case atStart => exact ⟨0, Nat.zero_le _, rfl, HBL.out, fun j hj h => by omega⟩
  case round =>
    obtain ⟨k, hk, rfl, hrel⟩ := hrel
    by_cases hlt : (k : Int) < (n : Int)
    · have hkl : k < l.length := by have := HN.out; omega
      obtain ⟨ad, rfl, had, h1, h2⟩ := readsF (HR.out _ hrel.out.1) k hkl
      obtain ⟨t, ht⟩ : ∃ t, t = l[k].name := ⟨_, rfl⟩
      obtain ⟨m, hm⟩ : ∃ m, m = l[k].n := ⟨_, rfl⟩
      rw [← ht] at h1
      rw [← hm] at h2
      have HW := Lib.hid (below_alloc hrel.out.1 (.cells #[.string t, .int .i64 m] 92) (Nat.le_refl _))
      by_cases he : t.data.toList = s.data.toList
      · have heq : (t.toList == s.toList) = true := by rw [ByteArray.toList_eq, ByteArray.toList_eq, he, beq_self_eq_true]
        have HG := Lib.hid (getO_at k hkl (show l[k].t = s.data.toList by unfold F.t; rw [← ht]; exact he) hrel.out.2)
        rw [← hm] at HG
        clear ht hm he
        go_wp2_with fail
        go_ret2
        exact ⟨by unfold getN getB; rw [HG.out]; rfl, HW.out⟩
      · have heq : (t.toList == s.toList) = false := by rw [ByteArray.toList_eq, ByteArray.toList_eq, beq_eq_false_iff_ne]; exact he
        have HT := Lib.hid (show l[k].t ≠ s.data.toList by unfold F.t; rw [← ht]; exact he)
        clear ht hm he
        go_wp2_with fail
        go_roundw
        case rel => exact ⟨k + 1, by omega, by go_num, HW.out, fun j hj h => by
          by_cases e : j < k
          · exact hrel.out.2 j hj e
          · obtain rfl : j = k := by omega
            exact HT.out⟩
        case measure => simp [intOf]; omega
    · go_wp2_with fail
      go_ret2
      have HG := getO_none (l := l) (name := s.data.toList) (fun j hj => hrel.out.2 j hj (by have := HN.out; omega))
      exact ⟨by unfold getN getB; rw [HG]; rfl, hrel.out.1⟩
end Go.Proofs.Ytboefioalkjdaaa.L5

/-
  The contract of chapter 5's IsRecord of the program. Conditions: names of at most 2^48 bytes, a record of at most 2^40 fields. (The region that draws its order is written by my program gen_l5ib.py.)
-/
namespace Go.Proofs.Ytboefioalkjdaaa.L5
set_option maxRecDepth 100000
open Go.Op (bytesLess)
open L4 (boxR push_box box_at)
open Go.ChangeShapes Go.WideShapes Go.ChangeAt Go.RowKit Mem Sl Ex L2 Sv
set_option linter.unusedVariables false
set_option linter.unusedSimpArgs false

theorem isR_long {l : List F} (h : ¬ l.length ≤ 6) : isR l = false := by
  unfold isR
  rw [Bool.and_eq_false_iff]
  exact .inr (decide_eq_false h)
theorem Row.two {w : World} {g : Nat} {t : TypeId} {x y : Value} (h : Row w g t #[x, y]) : w.cell? ⟨g, 0, none⟩ = some x ∧ w.cell? ⟨g, 1, none⟩ = some y := ⟨by rw [h.cell]; rfl, by rw [h.cell]; rfl⟩
set_option maxHeartbeats 4000000 in
theorem isRecord_any (a : Option Addr) (c : Nat) (l : List F) (hl : l.length ≤ 1099511627776) (hsm : Small l) (w : World) (hr : Reads w w.heap.size a (cellsF l)) :
    Calls Try.prog 69 #[.agg #[.slice a l.length c]] w fun e w' => e = .returned (.bool (isR l)) ∧ Below w.heap.size w w' := by
  have HR := Lib.hid (fun w' (h : Below w.heap.size w w') => hr.below h)
  obtain ⟨n, hn⟩ : ∃ n, n = l.length := ⟨_, rfl⟩
  rw [← hn]
  rw [← hn] at hl
  have HN := Lib.hid hn
  have HS := Lib.hid hsm
  clear hn hr hsm
  have hl' : (n : Int) ≤ 1099511627776 := by omega
  have S1 := Lib.hid (push_box (Sep.start w) 70 #[.slice a n c] w.heap.size rfl)
  obtain ⟨W1, hW1⟩ : ∃ u, u = w.alloc (.cells #[.slice a n c] 70) := ⟨_, rfl⟩
  rw [← hW1] at S1
  go_enter Try.func69, Try.ntmps69
  go_upto_region 1 with fail
  rw [← hW1]
  clear hW1
  obtain ⟨r0, r1⟩ := Row.one (box_at S1.out 0 rfl)
  by_cases h6 : (n : Int) ≤ 6
  rotate_left
  · have HX := Lib.hid (isR_long (l := l) (by have := HN.out; omega))
    have h6' : (6 : Int) < (n : Int) := by omega
    go_wp2_with fail
    go_ret
    exact ⟨by rw [HX.out]; rfl, S1.out.old⟩
  go_wp2_with fail
  go_loopw [12] (fun i wr => ∃ k : Nat, k ≤ n ∧ i = .int .i64 k ∧ Hid (okTo l k ∧ Sep w wr [boxR w.heap.size 70 #[.slice a n c]])) (fun i _ => n - (intOf i).toNat)
  case atStart => exact ⟨0, Nat.zero_le _, rfl, fun j hj h => by omega, S1.out⟩
  case round =>
    obtain ⟨k, hk, rfl, hrel⟩ := hrel
    clear r0 r1
    by_cases hlt : (k : Int) < (n : Int)
    · have hkl : k < l.length := by have := HN.out; omega
      have HRr := Lib.hid (HR.out _ hrel.out.2.old)
      obtain ⟨ad, rfl, had, h1, h2⟩ := readsF HRr.out k hkl
      have HNm := Lib.hid (fun w => isName_any l[k].name (HS.out _ (List.getElem_mem hkl)) w)
      have HI := Lib.hid (fun w => L1.inRange_any l[k].n 0 1000000000 w)
      obtain ⟨bn, hbn⟩ : ∃ b, isN l[k].name.data.toList = b := ⟨_, rfl⟩
      obtain ⟨bi, hbi⟩ : ∃ b, L1.inB l[k].n 0 1000000000 = b := ⟨_, rfl⟩
      have HO := Lib.hid (show okF l[k] = (bn && bi) by unfold okF; rw [hbi]; unfold F.t; rw [hbn])
      rw [hbn] at HNm
      rw [hbi] at HI
      obtain ⟨t, ht⟩ : ∃ t, t = l[k].name := ⟨_, rfl⟩
      obtain ⟨m, hm⟩ : ∃ m, m = l[k].n := ⟨_, rfl⟩
      rw [← ht] at h1 HNm
      rw [← hm] at h2 HI
      clear hbn hbi hm
      have HT := Lib.hid ht
      clear ht
      have S2 := Lib.hid (push_box hrel.out.2 92 #[.string t, .int .i64 m] wr.heap.size rfl)
      obtain ⟨W2, hW2⟩ : ∃ u, u = wr.alloc (.cells #[.string t, .int .i64 m] 92) := ⟨_, rfl⟩
      rw [← hW2] at S2
      have S3 := Lib.hid (S2.out.drews 1)
      have S4 := Lib.hid (sep_sub S3.out (ts := [boxR w.heap.size 70 #[.slice (some ad) n c]]) id (fun i r h => by match i, h with | 0, h => exact h) (fun i j _ _ h => h))
      rcases Nat.eq_zero_or_pos k with rfl | hk0
      · rw [Nat.zero_mul, show ad.add 0 = ad by simp [Addr.add]] at h1 h2
        go_upto_region 6 with fail
        rw [← hW2]
        clear hW2
        obtain ⟨r0, r1⟩ := Row.one (box_at S2.out 0 rfl)
        obtain ⟨q0, q1⟩ := Row.two (box_at S2.out 1 rfl)
        by_cases hb : (bn && bi) = true
        · simp only [Bool.and_eq_true] at hb
          obtain ⟨rfl, rfl⟩ := hb
          have HOt := Lib.hid (show okF l[0] = true from HO.out)
          clear HO
          go_upto_region 8 with (first | (go_at_call 26; refine (HNm.out _).mono ?_; rintro e w1 ⟨rfl, rfl⟩) | (go_at_call 27; refine (HI.out _).mono ?_; rintro e w1 ⟨rfl, rfl⟩))
          refine wp_region_held_drew (S := (fun w' => w'.cell? ⟨w.heap.size, 0, none⟩ = some (.slice (some ad) n c) ∧ w'.cell? ⟨wr.heap.size, 0, none⟩ = some (.string t))) (by kernel_rfl) ⟨r0, q0⟩ (fun hS => ?_)
          refine tk 0 rfl ?_
          try simp only [zp0, zp1, zp2, zp3, zp4]
          refine tk 1 rfl ?_
          try simp only [zp0, zp1, zp2, zp3, zp4]
          refine tk 2 rfl ?_
          try simp only [zp0, zp1, zp2, zp3, zp4]
          refine sk 3 rfl ?_
          try simp only [zp0, zp1, zp2, zp3, zp4]
          refine sk 4 rfl ?_
          try simp only [zp0, zp1, zp2, zp3, zp4]
          refine sk 5 rfl ?_
          try simp only [zp0, zp1, zp2, zp3, zp4]
          refine sk 6 rfl ?_
          try simp only [zp0, zp1, zp2, zp3, zp4]
          refine sk 7 rfl ?_
          try simp only [zp0, zp1, zp2, zp3, zp4]
          refine sk 8 rfl ?_
          try simp only [zp0, zp1, zp2, zp3, zp4]
          refine sk 9 rfl ?_
          try simp only [zp0, zp1, zp2, zp3, zp4]
          refine sk 10 rfl ?_
          try simp only [zp0, zp1, zp2, zp3, zp4]
          refine sk 11 rfl ?_
          try simp only [zp0, zp1, zp2, zp3, zp4]
          refine sk 12 rfl ?_
          try simp only [zp0, zp1, zp2, zp3, zp4]
          refine tk 13 rfl ?_
          try simp only [zp0, zp1, zp2, zp3, zp4]
          refine wpAnyH_done (by kernel_rfl) ?_ _
          go_wp2_with fail
          go_roundw
          case rel => exact ⟨1, by omega, by go_num, fun j hj h => by
              obtain rfl : j = 0 := by omega
              exact ⟨HOt.out, fun h0 => by omega⟩, S4.out⟩
          case measure => simp [intOf]; omega
        · have HX := Lib.hid (isR_no 0 hkl (.inl (by rw [HO.out]; simpa using hb)))
          rcases (show bn = false ∨ (bn = true ∧ bi = false) by cases bn <;> simp_all) with rfl | ⟨rfl, rfl⟩
          all_goals
            clear hb HO
            go_wp2_with (first | (go_at_call 26; refine (HNm.out _).mono ?_; rintro e w1 ⟨rfl, rfl⟩) | (go_at_call 27; refine (HI.out _).mono ?_; rintro e w1 ⟨rfl, rfl⟩))
            go_ret
            exact ⟨by rw [HX.out]; rfl, S2.out.old⟩
      · obtain ⟨j, rfl⟩ : ∃ j, k = j + 1 := ⟨k - 1, by omega⟩
        go_upto_region 6 with fail
        rw [← hW2]
        clear hW2
        obtain ⟨r0, r1⟩ := Row.one (box_at S2.out 0 rfl)
        obtain ⟨q0, q1⟩ := Row.two (box_at S2.out 1 rfl)
        by_cases hb : (bn && bi) = true
        · simp only [Bool.and_eq_true] at hb
          obtain ⟨rfl, rfl⟩ := hb
          have HOt := Lib.hid (show okF l[j + 1] = true from HO.out)
          clear HO
          obtain ⟨ad', e', -, h3, -⟩ := readsF (HR.out _ S2.out.old) j (by omega)
          injection e' with e'
          subst e'
          obtain ⟨p, hp⟩ : ∃ p, p = (l[j]'(by omega)).name := ⟨_, rfl⟩
          rw [← hp] at h3
          have hwj : IntKind.i64.wrap (j : Int) = (j : Int) := IntWalk.i64_in _ ⟨by omega, by omega⟩
          have k1 : (0 : Int) ≤ (j : Int) + 1 := by omega
          have k2 : (j : Int) + 1 < (n : Int) := by omega
          have k3 : (0 : Int) ≤ (j : Int) := by omega
          have k4 : (j : Int) < (n : Int) := by omega
          have hge := string_geq
          obtain ⟨bo, hbo⟩ : ∃ b, bytesLess p.toList t.toList = b := ⟨_, rfl⟩
          have HB := Lib.hid (show bytesLess (l[j]'(by omega)).t l[j + 1].t = bo by unfold F.t; rw [← hp, ← HT.out, ← hbo, ByteArray.toList_eq, ByteArray.toList_eq])
          clear hp
          cases bo with
          | false =>
            have HX := Lib.hid (isR_no (j + 1) hkl (.inr ⟨Nat.succ_pos j, HB.out⟩))
            go_upto_region 8 with (first | (go_at_call 26; refine (HNm.out _).mono ?_; rintro e w1 ⟨rfl, rfl⟩) | (go_at_call 27; refine (HI.out _).mono ?_; rintro e w1 ⟨rfl, rfl⟩))
            refine wp_region_held_drew (S := (fun w' => w'.cell? ⟨w.heap.size, 0, none⟩ = some (.slice (some ad) n c) ∧ w'.cell? ⟨wr.heap.size, 0, none⟩ = some (.string t) ∧ w'.cell? (ad.add (j * 2)) = some (.string p))) (by kernel_rfl) ⟨r0, q0, h3⟩ (fun hS => ?_)
            refine tk 0 rfl ?_
            try simp only [zp0, zp1, zp2, zp3, zp4]
            refine tk 1 rfl ?_
            try simp only [zp0, zp1, zp2, zp3, zp4]
            refine tk 2 rfl ?_
            try simp only [zp0, zp1, zp2, zp3, zp4]
            refine tk 3 rfl ?_
            try simp only [zp0, zp1, zp2, zp3, zp4]
            refine tk 4 rfl ?_
            try simp only [zp0, zp1, zp2, zp3, zp4]
            refine tk 5 rfl ?_
            try simp only [zp0, zp1, zp2, zp3, zp4]
            refine tk 6 rfl ?_
            try simp only [zp0, zp1, zp2, zp3, zp4]
            refine tk 7 rfl ?_
            try simp only [zp0, zp1, zp2, zp3, zp4]
            refine tk 8 rfl ?_
            try simp only [zp0, zp1, zp2, zp3, zp4]
            refine tk 9 rfl ?_
            try simp only [zp0, zp1, zp2, zp3, zp4]
            refine tk 10 rfl ?_
            try simp only [zp0, zp1, zp2, zp3, zp4]
            refine tk 11 rfl ?_
            try simp only [zp0, zp1, zp2, zp3, zp4]
            refine tk 12 rfl ?_
            try simp only [zp0, zp1, zp2, zp3, zp4]
            refine tk 13 rfl ?_
            try simp only [zp0, zp1, zp2, zp3, zp4]
            refine wpAnyH_done (by kernel_rfl) ?_ _
            go_wp2_with fail
            go_ret
            exact ⟨by rw [HX.out]; rfl, S4.out.old⟩
          | true =>
            go_upto_region 8 with (first | (go_at_call 26; refine (HNm.out _).mono ?_; rintro e w1 ⟨rfl, rfl⟩) | (go_at_call 27; refine (HI.out _).mono ?_; rintro e w1 ⟨rfl, rfl⟩))
            refine wp_region_held_drew (S := (fun w' => w'.cell? ⟨w.heap.size, 0, none⟩ = some (.slice (some ad) n c) ∧ w'.cell? ⟨wr.heap.size, 0, none⟩ = some (.string t) ∧ w'.cell? (ad.add (j * 2)) = some (.string p))) (by kernel_rfl) ⟨r0, q0, h3⟩ (fun hS => ?_)
            refine tk 0 rfl ?_
            try simp only [zp0, zp1, zp2, zp3, zp4]
            refine tk 1 rfl ?_
            try simp only [zp0, zp1, zp2, zp3, zp4]
            refine tk 2 rfl ?_
            try simp only [zp0, zp1, zp2, zp3, zp4]
            refine tk 3 rfl ?_
            try simp only [zp0, zp1, zp2, zp3, zp4]
            refine tk 4 rfl ?_
            try simp only [zp0, zp1, zp2, zp3, zp4]
            refine tk 5 rfl ?_
            try simp only [zp0, zp1, zp2, zp3, zp4]
            refine tk 6 rfl ?_
            try simp only [zp0, zp1, zp2, zp3, zp4]
            refine tk 7 rfl ?_
            try simp only [zp0, zp1, zp2, zp3, zp4]
            refine tk 8 rfl ?_
            try simp only [zp0, zp1, zp2, zp3, zp4]
            refine tk 9 rfl ?_
            try simp only [zp0, zp1, zp2, zp3, zp4]
            refine tk 10 rfl ?_
            try simp only [zp0, zp1, zp2, zp3, zp4]
            refine tk 11 rfl ?_
            try simp only [zp0, zp1, zp2, zp3, zp4]
            refine tk 12 rfl ?_
            try simp only [zp0, zp1, zp2, zp3, zp4]
            refine tk 13 rfl ?_
            try simp only [zp0, zp1, zp2, zp3, zp4]
            refine wpAnyH_done (by kernel_rfl) ?_ _
            go_wp2_with fail
            go_roundw
            case rel => exact ⟨j + 1 + 1, by omega, by go_num, fun q hq h => by
              by_cases e : q < j + 1
              · exact hrel.out.1 q hq e
              · obtain rfl : q = j + 1 := by omega
                exact ⟨HOt.out, fun _ => HB.out⟩, S4.out⟩
            case measure => simp [intOf]; omega
        · have HX := Lib.hid (isR_no (j + 1) hkl (.inl (by rw [HO.out]; simpa using hb)))
          rcases (show bn = false ∨ (bn = true ∧ bi = false) by cases bn <;> simp_all) with rfl | ⟨rfl, rfl⟩
          all_goals
            clear hb HO
            go_wp2_with (first | (go_at_call 26; refine (HNm.out _).mono ?_; rintro e w1 ⟨rfl, rfl⟩) | (go_at_call 27; refine (HI.out _).mono ?_; rintro e w1 ⟨rfl, rfl⟩))
            go_ret
            exact ⟨by rw [HX.out]; rfl, S2.out.old⟩
    · go_wp2_with fail
      go_ret
      exact ⟨by rw [isR_iff.2 ⟨fun j hj _ => hrel.out.1 j hj (by have := HN.out; omega), by have := HN.out; omega⟩]; rfl, hrel.out.2.old⟩
end Go.Proofs.Ytboefioalkjdaaa.L5

/-
  The contracts of the library's comparisons and of CompareBytes of the program: cmp.Compare, strings.Compare, bytes.Compare, CompareBytes. No condition.
-/
namespace Go.Proofs.Ytboefioalkjdaaa.L4
set_option maxRecDepth 100000
open Go.Op (bytesLess)
open Go.ChangeShapes Go.WideShapes Go.ChangeAt Go.RowKit Mem Sl Ex L2
set_option linter.unusedVariables false

theorem cmpB_eq : ∀ (x y : List UInt8), Lib.compareBytes x y = cmpL x y
  | [], [] => by simp [Lib.compareBytes, cmpL, sgn, bytesLess]
  | [], _ :: _ => by simp [Lib.compareBytes, cmpL, sgn, bytesLess]
  | _ :: _, [] => by simp [Lib.compareBytes, cmpL, sgn, bytesLess]
  | a :: x, b :: y => by
    rw [cmpL_cons, ← cmpB_eq x y, show Lib.compareBytes (a :: x) (b :: y) = if a < b then -1 else if b < a then 1 else Lib.compareBytes x y by simp only [Lib.compareBytes]]
    by_cases e : a = b
    · subst e
      rw [if_pos rfl, if_neg (UInt8.lt_irrefl _), if_neg (UInt8.lt_irrefl _)]
    · rw [if_neg e]
      by_cases h : a < b
      · rw [if_pos h, cmpL_less (by simp [bytesLess, h])]
      · have h2 : b < a := UInt8.lt_of_le_of_ne (UInt8.not_lt.1 h) (Ne.symm e)
        rw [if_neg h, if_pos h2, cmpL_more (by simp [bytesLess, h2])]

theorem run_loadBytesL {P : Program} (w : World) : ∀ (l : List Int) (a : Addr) (acc : ByteArray), (∀ j (hj : j < l.length), w.cell? (a.add j) = some (.int .u8 l[j])) →
    (Extern.Bytes.loadBytes a l.length acc).run P w = .ok ⟨acc.data ++ (toU l).toArray⟩ w
  | [], a, acc, _ => by simp [Extern.Bytes.loadBytes, toU]
  | x :: l, a, acc, h => by
    have h0 : w.cell? a = some (.int .u8 x) := by
      have := h 0 (Nat.succ_pos _)
      simpa [Addr.add] using this
    have ih := run_loadBytesL (P := P) w l (a.add 1) (acc.push x.toNat.toUInt8) (fun j hj => by
      have := h (j + 1) (Nat.succ_lt_succ hj)
      have e : (a.add 1).add j = a.add (j + 1) := by
        unfold Addr.add
        by_cases hj : j = 0
        · subst hj; simp
        · simp [hj]; omega
      rw [e]; simpa using this)
    simp only [List.length_cons, Extern.Bytes.loadBytes, Sem.run_bind, run_load, h0, Result.andThen]
    rw [ih]
    congr 1
    apply ByteArray.ext
    simp [ByteArray.push, toU, UInt8.ofNat]
theorem run_bytesOf {P : Program} (w : World) (B : Nat) (a : Option Addr) (c : Nat) (l : List Int) (hr : Reads w B a (ints .u8 l)) :
    (Extern.Bytes.bytesOf (.slice a l.length c)).run P w = .ok ⟨(toU l).toArray⟩ w := by
  rcases a with _ | ad
  · have hl : l = [] := by
      rcases l with _ | ⟨x, l⟩
      · rfl
      · obtain ⟨ad, h, _⟩ := hr 0 (by simp [ints])
        cases h
    subst hl
    rfl
  · have := run_loadBytesL (P := P) w l ad .empty (fun j hj => by
      obtain ⟨ad', h, _, hc⟩ := hr j (by simpa using hj)
      injection h with h
      subst h
      rw [hc, ints_get .u8 l j hj])
    unfold Extern.Bytes.bytesOf
    rw [this]
    simp [ByteArray.empty, ByteArray.emptyWithCapacity]
    rfl
theorem run_compareBytes {P : Program} (w : World) (B : Nat) (a a2 : Option Addr) (c c2 : Nat) (l m : List Int) (hr : Reads w B a (ints .u8 l)) (hr2 : Reads w B a2 (ints .u8 m)) :
    (Extern.BytealgCompare.compare #[.slice a l.length c, .slice a2 m.length c2]).run P w = .ok (.int .i64 (cmpL (toU l) (toU m))) w := by
  change Sem.run P (do pure (goInt (Extern.BytealgCompare.cmp (← Extern.Bytes.bytesOf (.slice a l.length c)) (← Extern.Bytes.bytesOf (.slice a2 m.length c2))))) w = _
  simp only [Sem.run_bind, run_bytesOf w B a c l hr, run_bytesOf w B a2 c2 m hr2, Sem.run_pure, Result.andThen]
  rw [Lib.cmp_eq, cmpB_eq]
  rfl

theorem bytesCompare_any (a a2 : Option Addr) (c c2 : Nat) (l m : List Int) (w : World) (B : Nat) (hr : Reads w B a (ints .u8 l)) (hr2 : Reads w B a2 (ints .u8 m)) :
    Calls Try.prog 100 #[.slice a l.length c, .slice a2 m.length c2] w fun e w' => e = .returned (.int .i64 (cmpL (toU l) (toU m))) ∧ w = w' := by
  have K := run_compareBytes (P := Try.prog) w B a a2 c c2 l m hr hr2
  obtain ⟨n1, hn1⟩ : ∃ n, n = l.length := ⟨_, rfl⟩
  obtain ⟨n2, hn2⟩ : ∃ n, n = m.length := ⟨_, rfl⟩
  obtain ⟨v, hv⟩ : ∃ v, v = cmpL (toU l) (toU m) := ⟨_, rfl⟩
  rw [← hn1, ← hn2, ← hv] at K
  rw [← hn1, ← hn2, ← hv]
  clear hn1 hn2 hv hr hr2
  go_enter Try.func100, Try.ntmps100
  go_wp2
  rw [run_callFunc_extern Try.func112 (by kernel_rfl) (by kernel_rfl) (by kernel_rfl) (e := Extern.BytealgCompare.compare) (by kernel_rfl), K]
  simp only [Result.andThen]
  rw [Oper.upon_value]
  go_wp2
  go_ret
  exact ⟨rfl, rfl⟩
theorem implCompareBytes_any (a a2 : Option Addr) (c c2 : Nat) (l m : List Int) (w : World) (B : Nat) (hr : Reads w B a (ints .u8 l)) (hr2 : Reads w B a2 (ints .u8 m)) :
    Calls Try.prog 86 #[.slice a l.length c, .slice a2 m.length c2] w fun e w' => e = .returned (.int .i64 (cmpL (toU l) (toU m))) ∧ Drew w w' := by
  have H := Lib.hid (fun w hr hr2 => bytesCompare_any a a2 c c2 l m w B hr hr2)
  go_enter Try.func86, Try.ntmps86
  go_wp2_with (go_at_call 100; with_reducible refine (H.out _ hr hr2).mono ?_; rintro e w1 ⟨rfl, rfl⟩)
  go_ret
  exact ⟨rfl, Drew.refl w⟩

theorem compareString_any (a b : ByteArray) (w : World) :
    Calls Try.prog 101 #[.string a, .string b] w fun e w' => e = .returned (.int .i64 (cmpL a.data.toList b.data.toList)) ∧ w = w' := by
  have K := Lib.run_compareString (P := Try.prog) a b w
  rw [cmpB_eq] at K
  obtain ⟨v, hv⟩ : ∃ v, v = cmpL a.data.toList b.data.toList := ⟨_, rfl⟩
  rw [← hv] at K ⊢
  clear hv
  go_enter Try.func101, Try.ntmps101
  go_wp2
  rw [run_callFunc_extern Try.func113 (by kernel_rfl) (by kernel_rfl) (by kernel_rfl) (e := Extern.BytealgCompare.compare) (by kernel_rfl), K]
  simp only [Result.andThen]
  rw [Oper.upon_value]
  go_wp2
  go_ret
  exact ⟨rfl, rfl⟩
theorem stringsCompare_any (a b : ByteArray) (w : World) :
    Calls Try.prog 87 #[.string a, .string b] w fun e w' => e = .returned (.int .i64 (cmpL a.data.toList b.data.toList)) ∧ w = w' := by
  have H := Lib.hid (fun w => compareString_any a b w)
  go_enter Try.func87, Try.ntmps87
  go_wp2_with (go_at_call 101; with_reducible refine (H.out _).mono ?_; rintro e w1 ⟨rfl, rfl⟩)
  go_ret
  exact ⟨rfl, rfl⟩
theorem isNaN_any (x : Int) (w : World) :
    Calls Try.prog 99 #[.int .i64 x] w fun e w' => e = .returned (.bool false) ∧ w = w' := by
  go_enter Try.func99, Try.ntmps99
  go_wp2
  go_ret
  exact ⟨by simp, rfl⟩
theorem cmpInt_any (x y : Int) (hn : ¬ x = y) (w : World) :
    Calls Try.prog 85 #[.int .i64 x, .int .i64 y] w fun e w' => e = .returned (.int .i64 (sgn (decide (x < y)) true)) ∧ w = w' := by
  have H := Lib.hid isNaN_any
  rcases (show x < y ∨ (¬ x < y ∧ x > y) by omega) with h | ⟨h, h2⟩
  all_goals
    go_enter Try.func85, Try.ntmps85
    go_wp2_with (go_at_call 99; refine (H.out _ _).mono ?_; rintro e w1 ⟨rfl, rfl⟩)
    go_ret
    exact ⟨by simp [h, sgn], rfl⟩
end Go.Proofs.Ytboefioalkjdaaa.L4

/-
  The contracts of chapter 4's tests of the program: isLetter, isDigit, isKeyNumber, isKeyText, IsKey. Conditions: a text of at most 2^48 bytes.
-/
namespace Go.Proofs.Ytboefioalkjdaaa.L4
set_option maxRecDepth 100000
open Go.ChangeShapes Go.WideShapes Go.ChangeAt Go.RowKit Mem Sl Ex L2
set_option linter.unusedVariables false

def isDig (c : UInt8) : Bool := decide (48 ≤ c.toNat) && decide (c.toNat ≤ 57)
theorem chr_eq (c : UInt8) : chr c = (isLet c || isDig c) := rfl

theorem isDigit_any (c : UInt8) (w : World) :
    Calls Try.prog 98 #[.int .u8 c.toNat] w fun e w' => e = .returned (.bool (isDig c)) ∧ w = w' := by
  by_cases h1 : (48 : Int) ≤ c.toNat <;> by_cases h2 : (c.toNat : Int) ≤ 57 <;>
    (go_enter Try.func98, Try.ntmps98
     go_wp2
     go_ret
     exact ⟨L1.ret_bool (by unfold isDig; have h1' := h1; have h2' := h2; simp only [Bool.false_eq, Bool.true_eq, Bool.and_eq_false_iff, Bool.and_eq_true, decide_eq_false_iff_not, decide_eq_true_eq]; omega), rfl⟩)
theorem isKeyNumber_any (n : Int) (w : World) :
    Calls Try.prog 83 #[.int .i64 n] w fun e w' => e = .returned (.bool (L1.inB n (-1000000000000) 1000000000000)) ∧ w = w' := by
  have H1 := Lib.hid (fun w => L1.inRange_any n (-1000000000000) 1000000000000 w)
  obtain ⟨b, hb⟩ : ∃ b, L1.inB n (-1000000000000) 1000000000000 = b := ⟨_, rfl⟩
  rw [hb] at H1 ⊢
  go_enter Try.func83, Try.ntmps83
  go_wp2_with (go_at_call 27; with_reducible refine (H1.out _).mono ?_; rintro e w1 ⟨rfl, rfl⟩)
  go_ret
  exact ⟨rfl, rfl⟩
theorem isKeyText_any (s : ByteArray) (hs : s.size ≤ 281474976710656) (w : World) :
    Calls Try.prog 84 #[.string s] w fun e w' => e = .returned (.bool (isT s.data.toList)) ∧ w = w' := by
  have hsz : s.data.toList.length = s.size := by rw [Array.length_toList]; rfl
  have HZ := Lib.hid hsz
  clear hsz
  by_cases h12 : (s.size : Int) ≤ 12
  · go_enter Try.func84, Try.ntmps84
    go_wp2
    go_loop [9] (fun i => ∃ k : Nat, k ≤ s.size ∧ i = .int .i64 k ∧ Hid (∀ j (hj : j < s.data.toList.length), j < k → chr s.data.toList[j] = true)) (fun i => s.size - (intOf i).toNat)
    case atStart => exact ⟨0, Nat.zero_le _, rfl, fun j hj h => by omega⟩
    case round =>
      obtain ⟨k, hk, rfl, hrel⟩ := hrel
      by_cases hlt : k < s.size
      · have hb : s.data.toList[k]? = some s[k] := by
          rw [List.getElem?_eq_getElem (by rw [HZ.out]; exact hlt)]
          rfl
        have HB := Lib.hid hb
        clear hb
        have HC := Lib.hid (chr_eq s[k])
        have H1 := Lib.hid (fun w => isLetter_any s[k] w)
        have H2 := Lib.hid (fun w => isDigit_any s[k] w)
        obtain ⟨bl, hbl⟩ : ∃ b, isLet s[k] = b := ⟨_, rfl⟩
        obtain ⟨bd, hbd⟩ : ∃ b, isDig s[k] = b := ⟨_, rfl⟩
        rw [hbl] at H1 HC
        rw [hbd] at H2 HC
        clear hbl hbd
        cases bl
        all_goals
          cases bd
          all_goals
            go_wp2_with (first
              | (go_at_call 49; refine (H1.out _).mono ?_; rintro e w1 ⟨rfl, rfl⟩)
              | (go_at_call 98; refine (H2.out _).mono ?_; rintro e w1 ⟨rfl, rfl⟩))
            first
            | (go_round
               case rel => exact ⟨k + 1, by omega, by go_num, fun j hj h => by
                  by_cases e : j < k
                  · exact hrel.out j hj e
                  · obtain rfl : j = k := by omega
                    have := HB.out
                    rw [List.getElem?_eq_getElem hj] at this
                    rw [Option.some.inj this]
                    exact HC.out⟩
               case measure => simp [intOf]; omega)
            | (go_ret
               exact ⟨by rw [isT_no k _ HB.out HC.out]; rfl, rfl⟩)
      · go_wp2
        go_ret
        obtain rfl : k = s.size := by omega
        have e1 := isT_all (fun j hj => hrel.out j hj (by rw [HZ.out] at hj; exact hj))
        rw [HZ.out] at e1
        refine ⟨?_, rfl⟩
        rw [e1, decide_eq_true (show s.size ≤ 12 by omega)]
        rfl
  · go_enter Try.func84, Try.ntmps84
    go_wp2
    go_ret
    refine ⟨?_, rfl⟩
    have : isT s.data.toList = false := by
      unfold isT
      rw [HZ.out, decide_eq_false (show ¬ s.size ≤ 12 by omega), Bool.and_false]
    rw [this]
    rfl
set_option maxHeartbeats 2000000 in
theorem implIsKey_any (k : K) (hs : k.text.size ≤ 281474976710656) (w : World) :
    Calls Try.prog 68 #[k.v] w fun e w' => e = .returned (.bool (isK k)) ∧ Below w.heap.size w w' := by
  obtain ⟨kd, n, s⟩ := k
  unfold K.v
  obtain ⟨b2, hb2⟩ : ∃ b, L1.inB n (-1000000000000) 1000000000000 = b := ⟨_, rfl⟩
  obtain ⟨b4, hb4⟩ : ∃ b, isT s.data.toList = b := ⟨_, rfl⟩
  have H2 := Lib.hid (fun w => isKeyNumber_any n w)
  have H4 := Lib.hid (fun w => isKeyText_any s hs w)
  rw [hb2] at H2
  rw [hb4] at H4
  obtain ⟨c0, hc0⟩ : ∃ b, (n == 0) = b := ⟨_, rfl⟩
  obtain ⟨ct, hct⟩ : ∃ b, (s.toList == []) = b := ⟨_, rfl⟩
  have HE := show isK ⟨kd, n, s⟩ = (L1.inB kd 1 3 && b2 && (kd != 2 || c0) && b4 && (kd != 1 || ct)) by unfold isK; rw [hb2, show K.t ⟨kd, n, s⟩ = s.data.toList from rfl, hb4, ← hct, ByteArray.toList_eq, ← hc0]
  have hx1 : ct = true → b4 = true := fun h => by
    rw [h, ByteArray.toList_eq, beq_iff_eq] at hct
    rw [← hb4, hct]
    rfl
  have hx2 : c0 = true → b2 = true := fun h => by
    rw [h, beq_iff_eq] at hc0
    rw [← hb2, hc0]
    rfl
  have HB := Lib.hid (fun o => below_alloc (Below.refl w.heap.size w) o (Nat.le_refl _))
  clear hb2 hb4
  rcases (show kd = 1 ∨ kd = 2 ∨ kd = 3 ∨ (kd ≠ 1 ∧ kd ≠ 2 ∧ kd ≠ 3) by omega) with rfl | rfl | rfl | ⟨hk1, hk2, hk3⟩
  · rw [show isK ⟨1, n, s⟩ = (b2 && ct) by rw [HE]; revert hx1; cases b2 <;> cases b4 <;> cases ct <;> simp [L1.inB]]
    clear HE hc0 hx1 hx2
    rcases (show b2 = false ∨ b2 = true by cases b2 <;> simp) with rfl | rfl
    all_goals
      go_enter Try.func68, Try.ntmps68
      go_wp2_with (go_at_call 83; with_reducible refine (H2.out _).mono ?_; rintro e w1 ⟨rfl, rfl⟩)
      go_ret
      exact ⟨rfl, HB.out _⟩
  · rw [show isK ⟨2, n, s⟩ = (c0 && b4) by rw [HE]; revert hx2; cases b2 <;> cases b4 <;> cases c0 <;> simp [L1.inB]]
    clear HE hct hx1 hx2
    rcases (show c0 = false ∨ c0 = true by cases c0 <;> simp) with rfl | rfl
    all_goals
      go_enter Try.func68, Try.ntmps68
      go_wp2_with (go_at_call 84; refine (H4.out _).mono ?_; rintro e w1 ⟨rfl, rfl⟩)
      go_ret
      exact ⟨rfl, HB.out _⟩
  · rw [show isK ⟨3, n, s⟩ = (b2 && b4) by rw [HE]; cases b2 <;> cases b4 <;> cases c0 <;> cases ct <;> simp [L1.inB]]
    clear HE hct hc0 hx1 hx2
    rcases (show b2 = false ∨ b2 = true by cases b2 <;> simp) with rfl | rfl
    all_goals
      go_enter Try.func68, Try.ntmps68
      go_wp2_with (first
        | (go_at_call 83; with_reducible refine (H2.out _).mono ?_; rintro e w1 ⟨rfl, rfl⟩)
        | (go_at_call 84; refine (H4.out _).mono ?_; rintro e w1 ⟨rfl, rfl⟩))
      go_ret
      exact ⟨rfl, HB.out _⟩
  · have : L1.inB kd 1 3 = false := L1.inB_false.2 (by omega)
    rw [HE, this]
    clear HE hct hc0 hx1 hx2 this
    replace hk1 : ¬ kd = 1 := hk1
    replace hk2 : ¬ kd = 2 := hk2
    replace hk3 : ¬ kd = 3 := hk3
    go_enter Try.func68, Try.ntmps68
    go_wp2_with fail
    go_ret
    exact ⟨by simp, HB.out _⟩
end Go.Proofs.Ytboefioalkjdaaa.L4

/-
  The contracts of encodeNumber and EncodeKey of the program. Conditions: a text of at most 2^40 bytes.
-/
namespace Go.Proofs.Ytboefioalkjdaaa.L4
open Go.Op (bytesLess)
open Go.ChangeShapes Go.WideShapes Go.ChangeAt Go.RowKit Mem Sl Ex L2
set_option maxRecDepth 100000
set_option linter.unusedVariables false

def numCells (m : Nat) : Array Value := #[.int .u8 ((m / 1099511627776 % 256 : Nat) : Int), .int .u8 ((m / 4294967296 % 256 : Nat) : Int), .int .u8 ((m / 16777216 % 256 : Nat) : Int), .int .u8 ((m / 65536 % 256 : Nat) : Int), .int .u8 ((m / 256 % 256 : Nat) : Int), .int .u8 ((m / 1 % 256 : Nat) : Int)]

set_option maxHeartbeats 2000000 in
theorem encodeNumber_any (n : Int) (m : Nat) (hm : (m : Int) = n + 1000000000000) (h1 : n ≤ 1000000000000) (w : World) :
    Calls Try.prog 76 #[.int .i64 n] w fun e w' => e = .returned (.agg (numCells m)) ∧ Below w.heap.size w w' := by
  obtain ⟨M, hM⟩ : ∃ M : Int, M = n + 1000000000000 := ⟨_, rfl⟩
  have hM0 : 0 ≤ M := by omega
  have hM1 : M ≤ 2000000000000 := by omega
  go_enter Try.func76, Try.ntmps76
  go_wp2
  refine wp_loop_rounds 7 ?_
  iterate 7 (rw [rounds_succ]; go_wp2)
  refine bodyPost_ret (v := .agg _) (by simp [results, Try.results76, go_sem]; rfl) rfl ?_
  refine ⟨?_, below_alloc (below_alloc (Below.refl _ _) _ (Nat.le_refl _)) _ (Nat.le_refl _)⟩
  have e0 : (n + 1000000000000) / 256 / 256 / 256 / 256 / 256 = ((m / 1099511627776 % 256 : Nat) : Int) := by omega
  have e1 : (n + 1000000000000) / 256 / 256 / 256 / 256 % 256 = ((m / 4294967296 % 256 : Nat) : Int) := by omega
  have e2 : (n + 1000000000000) / 256 / 256 / 256 % 256 = ((m / 16777216 % 256 : Nat) : Int) := by omega
  have e3 : (n + 1000000000000) / 256 / 256 % 256 = ((m / 65536 % 256 : Nat) : Int) := by omega
  have e4 : (n + 1000000000000) / 256 % 256 = ((m / 256 % 256 : Nat) : Int) := by omega
  have e5 : (n + 1000000000000) % 256 = ((m / 1 % 256 : Nat) : Int) := by omega
  rw [e0, e1, e2, e3, e4, e5]
  rfl

theorem numCells_form (m : Nat) : ∃ x0 x1 x2 x3 x4 x5 : Int, numCells m = #[.int .u8 x0, .int .u8 x1, .int .u8 x2, .int .u8 x3, .int .u8 x4, .int .u8 x5] ∧ toI (be 6 m) = [x0, x1, x2, x3, x4, x5] := by
  refine ⟨_, _, _, _, _, _, rfl, ?_⟩
  simp only [be, toI, List.map_cons, List.map_nil, UInt8.toNat_ofNat', show (256 ^ 5 : Nat) = 1099511627776 from rfl, show (256 ^ 4 : Nat) = 4294967296 from rfl, show (256 ^ 3 : Nat) = 16777216 from rfl, show (256 ^ 2 : Nat) = 65536 from rfl, show (256 ^ 1 : Nat) = 256 from rfl, show (256 ^ 0 : Nat) = 1 from rfl, Nat.mod_mod]
theorem reads_row {w : World} {g : Nat} {t : TypeId} {k : IntKind} {l : List Int} (h : Row w g t (ints k l).toArray) : Reads w w.heap.size (some ⟨g, 0, none⟩) (ints k l) := fun j hj => by
  refine ⟨_, rfl, by simpa [add_block] using h.inside, ?_⟩
  rw [Addr.add_lit, h.cell]
  simp [List.getElem?_eq_getElem hj]

section
variable {P : Program} (w : World)
end

end Go.Proofs.Ytboefioalkjdaaa.L4

/-
  Arrays of six bytes, compared. No condition.
-/
namespace Go.Proofs.Ytboefioalkjdaaa.L4
set_option maxRecDepth 100000
open Go.ChangeShapes Go.WideShapes Go.ChangeAt Go.RowKit Mem Sl Ex L2
set_option maxHeartbeats 2000000 in
theorem array_eq (x0 x1 x2 x3 x4 x5 y0 y1 y2 y3 y4 y5 : Int) (w : World) :
    (Op.equalIn 10000 101 (.agg #[.int .u8 x0, .int .u8 x1, .int .u8 x2, .int .u8 x3, .int .u8 x4, .int .u8 x5]) (.agg #[.int .u8 y0, .int .u8 y1, .int .u8 y2, .int .u8 y3, .int .u8 y4, .int .u8 y5])).run Try.prog w = .ok (decide ([x0, x1, x2, x3, x4, x5] = [y0, y1, y2, y3, y4, y5])) w := by
  obtain ⟨i0, hi, hz0, hz1, hz2⟩ := infoOf _ _ _ _ info8
  have hu : Try.prog.underlying 101 = some (.array 6 5) := Try.underlying101
  rw [show (10000 : Nat) = 9998 + 1 + 1 from rfl, run_equalIn_array w (9998 + 1) _ _ hu hi, show List.range 6 = [0, 1, 2, 3, 4, 5] from rfl, show Try.prog.cellsOf 5 = 1 by kernel_rfl]
  have he : ∀ (a b : Int) (w : World), (Op.equalIn (9998 + 1) 5 (.int .u8 a) (.int .u8 b)).run Try.prog w = .ok (a == b) w := fun a b w => run_equalIn_int w 9998 5 .u8 .u8 a b Try.underlying5
  simp [Op.eqItems, he, go_sem]
  (repeat' split) <;> simp_all
end Go.Proofs.Ytboefioalkjdaaa.L4

/-
  The contract of CompareKeys of the program. Conditions: texts of at most 2^48 bytes.
-/
namespace Go.Proofs.Ytboefioalkjdaaa.L4
open Go.Op (bytesLess)
open Go.ChangeShapes Go.WideShapes Go.ChangeAt Go.RowKit Mem Sl Ex L2
set_option maxRecDepth 100000
set_option linter.unusedVariables false
set_option linter.unusedSimpArgs false

theorem step_store_box {P : Program} {ops : Array Oper} {o : Oper} {a : Act} {w : World} {K : Act → World → Prop} {Q : Exit → Act → World → Prop} {E : Prop} (hgd : o.guard = none) (ty : TypeId) (x y : Operand) (ho : o.op = .store ty x y)
    (g : Nat) (t : TypeId) (old cells : Array Value) (hx : a.eval x = .pointer (some ⟨g, 0, none⟩)) (hy : a.eval y = .agg cells) (hr : Row w g t old) (hi : (P.info? ty).map (·.size) = some cells.size) (hold : old.size = cells.size) (h1 : cells.all (·.oneCell') = true)
    (h : ∀ w', Turned [g] w w' → Row w' g t cells → K (a.put o.dst undef) w') : if Region.wanted o (yielded ops a.tmps) = true then Oper.wp P o a w K Q else E := by
  have hw : Region.wanted o (yielded ops a.tmps) = true := by simp [Region.wanted, hgd]
  rw [if_pos hw]
  refine wp_store_row ty x y ho g cells hx hy t old hr hi hold h1 (h _ ⟨rfl, rfl, rfl, by simp [World.setRow], fun b _ hb => setRow_other w g b cells (by simpa using hb)⟩ (setRow_heap w g old cells t (0, 0) hr))
theorem sep_two {W w : World} {a b : Res} {ts : List Res} (h : Sep W w (a :: b :: ts)) : Sep W w [a, b] := by
  have e : ∀ (i : Nat) (r : Res), [a, b][i]? = some r → (a :: b :: ts)[i]? = some r := fun i r hi => by
    match i with
    | 0 => simpa using hi
    | 1 => simpa using hi
    | i + 2 => simp at hi
  exact ⟨h.old, fun i r hi => h.is i r (e i r hi), fun i r hi => h.lies i r (e i r hi), fun i j r s hi hj => h.apart i j r s (e i r hi) (e j s hj)⟩
theorem box6 {w : World} {g : Nat} {t : TypeId} {a0 a1 a2 a3 a4 a5 : Value} (hr : Row w g t #[a0, a1, a2, a3, a4, a5]) : w.cell? ⟨g, 0, none⟩ = some a0 ∧ w.cell? ⟨g, 1, none⟩ = some a1 ∧ w.cell? ⟨g, 2, none⟩ = some a2 ∧ w.cell? ⟨g, 3, none⟩ = some a3 ∧ w.cell? ⟨g, 4, none⟩ = some a4 ∧ w.cell? ⟨g, 5, none⟩ = some a5 := by
  refine ⟨?_, ?_, ?_, ?_, ?_, ?_⟩ <;> (rw [hr.cell]; rfl)
set_option maxHeartbeats 30000000 in
theorem implCompareKeys_any (a b : K) (ha : a.text.size ≤ 281474976710656) (hb : b.text.size ≤ 281474976710656) (w : World) :
    Calls Try.prog 70 #[a.v, b.v] w fun e w' => e = .returned (.int .i64 (cmpK a b)) ∧ Below w.heap.size w w' := by
  have H1 := Lib.hid (fun w => implIsKey_any a ha w)
  have H2 := Lib.hid (fun w => implIsKey_any b hb w)
  obtain ⟨ia, hia⟩ : ∃ x, isK a = x := ⟨_, rfl⟩
  obtain ⟨ib, hib⟩ : ∃ x, isK b = x := ⟨_, rfl⟩
  rw [hia] at H1
  rw [hib] at H2
  obtain ⟨ka, na, sa⟩ := a
  obtain ⟨kb, nb, sb⟩ := b
  have S0 := Sl.Sep.start w
  have S1 := L4.push_box S0 49 #[.int .i64 ka, .int .i64 na, .string sa] (w.heap.size) (by simp)
  clear S0
  have S2 := L4.push_box S1 49 #[.int .i64 kb, .int .i64 nb, .string sb] (w.heap.size + 1) (by simp)
  clear S1
  unfold K.v at H1 H2 ⊢
  go_enter Try.func70, Try.ntmps70
  go_wp2_with fail
  go_at_call 68
  refine (H1.out _).mono ?_
  rintro e w3 ⟨rfl, h3⟩
  have S3 := S2.keep h3
  clear S2 h3
  obtain ⟨f0_0, f0_1, f0_2⟩ := L4.box3 S3 0 rfl
  obtain ⟨f1_0, f1_1, f1_2⟩ := L4.box3 S3 1 rfl
  cases ia with
  | false =>
    go_wp2_with fail
    go_ret
    exact ⟨by rw [cmpK_bad1 hia]; rfl, S3.old⟩
  | true =>
    go_wp2_with fail
    go_at_call 68
    refine (H2.out _).mono ?_
    rintro e w4 ⟨rfl, h4⟩
    have S4 := S3.keep h4
    clear S3 h4 f0_0 f0_1 f0_2 f1_0 f1_1 f1_2
    obtain ⟨f0_0, f0_1, f0_2⟩ := L4.box3 S4 0 rfl
    obtain ⟨f1_0, f1_1, f1_2⟩ := L4.box3 S4 1 rfl
    cases ib with
    | false =>
      go_wp2_with fail
      go_ret
      exact ⟨by rw [cmpK_bad2 hib]; rfl, S4.old⟩
    | true =>
      have ga := isK_iff.1 hia
      have gb := isK_iff.1 hib
      by_cases hk : ka = kb
      · obtain ⟨ma, hma⟩ : ∃ m : Nat, (m : Int) = na + 1000000000000 := ⟨(na + 1000000000000).toNat, by have := ga.n0; simp only at this; omega⟩
        obtain ⟨mb, hmb⟩ : ∃ m : Nat, (m : Int) = nb + 1000000000000 := ⟨(nb + 1000000000000).toNat, by have := gb.n0; simp only at this; omega⟩
        have HA := Lib.hid (fun w => encodeNumber_any na ma hma ga.n1 w)
        have HB := Lib.hid (fun w => encodeNumber_any nb mb hmb gb.n1 w)
        obtain ⟨x0, x1, x2, x3, x4, x5, hxc, hxl⟩ := numCells_form ma
        obtain ⟨y0, y1, y2, y3, y4, y5, hyc, hyl⟩ := numCells_form mb
        rw [hxc] at HA
        rw [hyc] at HB
        have HE1 := Lib.hid (fun (hn : na = nb) => cmpK_t hia hib hk hn)
        have HE2 := Lib.hid (fun (hn : ¬ na = nb) => cmpK_n hia hib hk hn)
        have HM := Lib.hid (And.intro hma (And.intro hmb (And.intro hxl hyl)))
        have HM2 := Lib.hid (show na ≤ 1000000000000 ∧ nb ≤ 1000000000000 from ⟨ga.n1, gb.n1⟩)
        subst hk
        clear hia hib ga gb hxc hyc hma hmb hxl hyl
        go_upto_region 5 with fail
        go_cut [5, 6] (fun p q wx => ∃ g1 g2, p = .pointer (some ⟨g1, 0, none⟩) ∧ q = .pointer (some ⟨g2, 0, none⟩) ∧ Hid (Row wx g1 101 #[.int .u8 x0, .int .u8 x1, .int .u8 x2, .int .u8 x3, .int .u8 x4, .int .u8 x5] ∧ Row wx g2 101 #[.int .u8 y0, .int .u8 y1, .int .u8 y2, .int .u8 y3, .int .u8 y4, .int .u8 y5] ∧ Sep w wx [boxR w.heap.size 49 #[.int .i64 ka, .int .i64 na, .string sa], boxR (w.heap.size + 1) 49 #[.int .i64 ka, .int .i64 nb, .string sb]]))
        case first =>
          refine wp_region_held_drew (S := fun w' => w'.cell? ⟨w.heap.size, 1, none⟩ = some (.int .i64 na) ∧ w'.cell? ⟨w.heap.size + 1, 1, none⟩ = some (.int .i64 nb)) (by kernel_rfl) ⟨f0_1, f1_1⟩ (fun hS => ?_)
          have S4d : Sep w w4.drew _ := S4.drews 1
          clear f0_0 f0_1 f0_2 f1_0 f1_1 f1_2 S4
          generalize w4.drew = wd at hS S4d ⊢
          refine wpAnyH_take (i := 0) (v := ?_) rfl (by kernel_rfl) (by kernel_rfl) (by kernel_rfl) (fun _ _ _ h => h) (Or.inl ⟨by rfl, ?_⟩) (by assumption) ?_
          rotate_left
          · (intro w hSw; (try dsimp only at hSw); go_simp; try with_reducible rfl)
          try simp only [zp0, zp1, zp2, zp3, zp4]
          refine wpAnyH_take (i := 1) (v := ?_) rfl (by kernel_rfl) (by kernel_rfl) (by kernel_rfl) (fun _ _ _ h => h) (Or.inl ⟨by rfl, ?_⟩) (by assumption) ?_
          rotate_left
          · (intro w hSw; (try dsimp only at hSw); go_simp; try with_reducible rfl)
          try simp only [zp0, zp1, zp2, zp3, zp4]
          refine wpAnyH_take (i := 3) (v := ?_) rfl (by kernel_rfl) (by kernel_rfl) (by kernel_rfl) (fun _ _ _ h => h) (Or.inl ⟨by rfl, ?_⟩) (by assumption) ?_
          rotate_left
          · (intro w hSw; (try dsimp only at hSw); go_simp; try with_reducible rfl)
          try simp only [zp0, zp1, zp2, zp3, zp4]
          refine wpAnyH_take (i := 4) (v := ?_) rfl (by kernel_rfl) (by kernel_rfl) (by kernel_rfl) (fun _ _ _ h => h) (Or.inl ⟨by rfl, ?_⟩) (by assumption) ?_
          rotate_left
          · (intro w hSw; (try dsimp only at hSw); go_simp; try with_reducible rfl)
          try simp only [zp0, zp1, zp2, zp3, zp4]
          refine wpAnyH_ready (rs := [2, 6, 7]) (by kernel_rfl) (by simp) ?_
          refine AllReadyH.cons rfl (fun K hK => ?_) ?_
          · go_simp
            go_at_call 76
            refine (HA.out _).mono ?_
            rintro e w1x ⟨rfl, hb⟩
            have S1x := Sl.Sep.keep S4d hb
            clear hb S4d
            go_wp2_with fail
            refine hK.out _ _ ⟨(box3 S1x 0 rfl).2.1, (box3 S1x 1 rfl).2.1⟩ (fun hS => ?_)
            clear hK K
            try simp only [zp0, zp1, zp2, zp3, zp4]
            refine wpAnyH_ready (rs := [5, 6, 7]) (by kernel_rfl) (by simp) ?_
            refine AllReadyH.cons rfl (fun K hK => ?_) ?_
            · go_simp
              go_at_call 76
              refine (HB.out _).mono ?_
              rintro e w2x ⟨rfl, hb⟩
              have S2x := Sl.Sep.keep S1x hb
              clear hb S1x
              go_wp2_with fail
              refine hK.out _ _ ⟨(box3 S2x 0 rfl).2.1, (box3 S2x 1 rfl).2.1⟩ (fun hS => ?_)
              clear hK K
              try simp only [zp0, zp1, zp2, zp3, zp4]
              refine wpAnyH_ready (rs := [6, 7]) (by kernel_rfl) (by simp) ?_
              refine AllReadyH.cons rfl (fun K hK => ?_) ?_
              · have S3x := push_box S2x 101 #[.int .u8 0, .int .u8 0, .int .u8 0, .int .u8 0, .int .u8 0, .int .u8 0] w2x.heap.size rfl
                go_simp
                refine hK.out _ _ ⟨(box3 S3x 0 rfl).2.1, (box3 S3x 1 rfl).2.1⟩ (fun hS => ?_)
                clear hK K
                try simp only [zp0, zp1, zp2, zp3, zp4]
                generalize w2x.alloc (.cells #[.int .u8 0, .int .u8 0, .int .u8 0, .int .u8 0, .int .u8 0, .int .u8 0] 101) = w3x at hS S3x ⊢
                refine wpAnyH_ready (rs := [7]) (by kernel_rfl) (by simp) ?_
                refine AllReadyH.cons rfl (fun K hK => ?_) ?_
                · have S4x := push_box S3x 101 #[.int .u8 0, .int .u8 0, .int .u8 0, .int .u8 0, .int .u8 0, .int .u8 0] w3x.heap.size rfl
                  go_simp
                  refine hK.out _ _ ⟨(box3 S4x 0 rfl).2.1, (box3 S4x 1 rfl).2.1⟩ (fun hS => ?_)
                  clear hK K
                  try simp only [zp0, zp1, zp2, zp3, zp4]
                  generalize w3x.alloc (.cells #[.int .u8 0, .int .u8 0, .int .u8 0, .int .u8 0, .int .u8 0, .int .u8 0] 101) = w4x at hS S4x ⊢
                  refine wpAnyH_ready (rs := [8]) (by kernel_rfl) (by simp) ?_
                  refine AllReadyH.cons rfl (fun K hK => ?_) ?_
                  · refine step_store_box rfl 101 (.tmp 5) (.tmp 27) rfl w2x.heap.size 101 #[.int .u8 0, .int .u8 0, .int .u8 0, .int .u8 0, .int .u8 0, .int .u8 0] #[.int .u8 x0, .int .u8 x1, .int .u8 x2, .int .u8 x3, .int .u8 x4, .int .u8 x5] rfl rfl (box_at S4x 2 rfl) (by kernel_rfl) rfl (by simp [Value.oneCell']) ?_
                    intro w5x ht hr
                    have S5x := Sl.Sep.put (r' := boxR w2x.heap.size 101 #[.int .u8 x0, .int .u8 x1, .int .u8 x2, .int .u8 x3, .int .u8 x4, .int .u8 x5]) S4x 2 rfl ht hr (fun b hb => hb)
                    clear ht hr
                    refine hK.out _ _ ⟨(box3 S5x 0 rfl).2.1, (box3 S5x 1 rfl).2.1⟩ (fun hS => ?_)
                    clear hK K
                    try simp only [zp0, zp1, zp2, zp3, zp4]
                    refine wpAnyH_ready (rs := [9]) (by kernel_rfl) (by simp) ?_
                    refine AllReadyH.cons rfl (fun K hK => ?_) ?_
                    · refine step_store_box rfl 101 (.tmp 6) (.tmp 30) rfl w3x.heap.size 101 #[.int .u8 0, .int .u8 0, .int .u8 0, .int .u8 0, .int .u8 0, .int .u8 0] #[.int .u8 y0, .int .u8 y1, .int .u8 y2, .int .u8 y3, .int .u8 y4, .int .u8 y5] rfl rfl (box_at S5x 3 rfl) (by kernel_rfl) rfl (by simp [Value.oneCell']) ?_
                      intro w6x ht hr
                      have S6x := Sl.Sep.put (r' := boxR w3x.heap.size 101 #[.int .u8 y0, .int .u8 y1, .int .u8 y2, .int .u8 y3, .int .u8 y4, .int .u8 y5]) S5x 3 rfl ht hr (fun b hb => hb)
                      clear ht hr
                      refine hK.out _ _ ⟨(box3 S6x 0 rfl).2.1, (box3 S6x 1 rfl).2.1⟩ (fun hS => ?_)
                      clear hK K
                      try simp only [zp0, zp1, zp2, zp3, zp4]
                      refine wpAnyH_done (by kernel_rfl) ?_ _
                      go_wp2_with fail
                      go_meet
                      case rel => exact ⟨_, _, rfl, rfl, And.intro (box_at S6x 2 rfl) (And.intro (box_at S6x 3 rfl) (sep_two S6x))⟩
                    exact AllReadyH.nil
                  exact AllReadyH.nil
                exact AllReadyH.nil
              refine AllReadyH.cons rfl (fun K hK => ?_) ?_
              · have S7x := push_box S2x 101 #[.int .u8 0, .int .u8 0, .int .u8 0, .int .u8 0, .int .u8 0, .int .u8 0] w2x.heap.size rfl
                go_simp
                refine hK.out _ _ ⟨(box3 S7x 0 rfl).2.1, (box3 S7x 1 rfl).2.1⟩ (fun hS => ?_)
                clear hK K
                try simp only [zp0, zp1, zp2, zp3, zp4]
                generalize w2x.alloc (.cells #[.int .u8 0, .int .u8 0, .int .u8 0, .int .u8 0, .int .u8 0, .int .u8 0] 101) = w7x at hS S7x ⊢
                refine wpAnyH_ready (rs := [6]) (by kernel_rfl) (by simp) ?_
                refine AllReadyH.cons rfl (fun K hK => ?_) ?_
                · have S8x := push_box S7x 101 #[.int .u8 0, .int .u8 0, .int .u8 0, .int .u8 0, .int .u8 0, .int .u8 0] w7x.heap.size rfl
                  go_simp
                  refine hK.out _ _ ⟨(box3 S8x 0 rfl).2.1, (box3 S8x 1 rfl).2.1⟩ (fun hS => ?_)
                  clear hK K
                  try simp only [zp0, zp1, zp2, zp3, zp4]
                  generalize w7x.alloc (.cells #[.int .u8 0, .int .u8 0, .int .u8 0, .int .u8 0, .int .u8 0, .int .u8 0] 101) = w8x at hS S8x ⊢
                  refine wpAnyH_ready (rs := [8]) (by kernel_rfl) (by simp) ?_
                  refine AllReadyH.cons rfl (fun K hK => ?_) ?_
                  · refine step_store_box rfl 101 (.tmp 5) (.tmp 27) rfl w7x.heap.size 101 #[.int .u8 0, .int .u8 0, .int .u8 0, .int .u8 0, .int .u8 0, .int .u8 0] #[.int .u8 x0, .int .u8 x1, .int .u8 x2, .int .u8 x3, .int .u8 x4, .int .u8 x5] rfl rfl (box_at S8x 3 rfl) (by kernel_rfl) rfl (by simp [Value.oneCell']) ?_
                    intro w9x ht hr
                    have S9x := Sl.Sep.put (r' := boxR w7x.heap.size 101 #[.int .u8 x0, .int .u8 x1, .int .u8 x2, .int .u8 x3, .int .u8 x4, .int .u8 x5]) S8x 3 rfl ht hr (fun b hb => hb)
                    clear ht hr
                    refine hK.out _ _ ⟨(box3 S9x 0 rfl).2.1, (box3 S9x 1 rfl).2.1⟩ (fun hS => ?_)
                    clear hK K
                    try simp only [zp0, zp1, zp2, zp3, zp4]
                    refine wpAnyH_ready (rs := [9]) (by kernel_rfl) (by simp) ?_
                    refine AllReadyH.cons rfl (fun K hK => ?_) ?_
                    · refine step_store_box rfl 101 (.tmp 6) (.tmp 30) rfl w2x.heap.size 101 #[.int .u8 0, .int .u8 0, .int .u8 0, .int .u8 0, .int .u8 0, .int .u8 0] #[.int .u8 y0, .int .u8 y1, .int .u8 y2, .int .u8 y3, .int .u8 y4, .int .u8 y5] rfl rfl (box_at S9x 2 rfl) (by kernel_rfl) rfl (by simp [Value.oneCell']) ?_
                      intro w10x ht hr
                      have S10x := Sl.Sep.put (r' := boxR w2x.heap.size 101 #[.int .u8 y0, .int .u8 y1, .int .u8 y2, .int .u8 y3, .int .u8 y4, .int .u8 y5]) S9x 2 rfl ht hr (fun b hb => hb)
                      clear ht hr
                      refine hK.out _ _ ⟨(box3 S10x 0 rfl).2.1, (box3 S10x 1 rfl).2.1⟩ (fun hS => ?_)
                      clear hK K
                      try simp only [zp0, zp1, zp2, zp3, zp4]
                      refine wpAnyH_done (by kernel_rfl) ?_ _
                      go_wp2_with fail
                      go_meet
                      case rel => exact ⟨_, _, rfl, rfl, And.intro (box_at S10x 3 rfl) (And.intro (box_at S10x 2 rfl) (sep_two S10x))⟩
                    exact AllReadyH.nil
                  exact AllReadyH.nil
                exact AllReadyH.nil
              exact AllReadyH.nil
            refine AllReadyH.cons rfl (fun K hK => ?_) ?_
            · have S11x := push_box S1x 101 #[.int .u8 0, .int .u8 0, .int .u8 0, .int .u8 0, .int .u8 0, .int .u8 0] w1x.heap.size rfl
              go_simp
              refine hK.out _ _ ⟨(box3 S11x 0 rfl).2.1, (box3 S11x 1 rfl).2.1⟩ (fun hS => ?_)
              clear hK K
              try simp only [zp0, zp1, zp2, zp3, zp4]
              generalize w1x.alloc (.cells #[.int .u8 0, .int .u8 0, .int .u8 0, .int .u8 0, .int .u8 0, .int .u8 0] 101) = w11x at hS S11x ⊢
              refine wpAnyH_ready (rs := [5, 7]) (by kernel_rfl) (by simp) ?_
              refine AllReadyH.cons rfl (fun K hK => ?_) ?_
              · go_simp
                go_at_call 76
                refine (HB.out _).mono ?_
                rintro e w12x ⟨rfl, hb⟩
                have S12x := Sl.Sep.keep S11x hb
                clear hb S11x
                go_wp2_with fail
                refine hK.out _ _ ⟨(box3 S12x 0 rfl).2.1, (box3 S12x 1 rfl).2.1⟩ (fun hS => ?_)
                clear hK K
                try simp only [zp0, zp1, zp2, zp3, zp4]
                refine wpAnyH_ready (rs := [7]) (by kernel_rfl) (by simp) ?_
                refine AllReadyH.cons rfl (fun K hK => ?_) ?_
                · have S13x := push_box S12x 101 #[.int .u8 0, .int .u8 0, .int .u8 0, .int .u8 0, .int .u8 0, .int .u8 0] w12x.heap.size rfl
                  go_simp
                  refine hK.out _ _ ⟨(box3 S13x 0 rfl).2.1, (box3 S13x 1 rfl).2.1⟩ (fun hS => ?_)
                  clear hK K
                  try simp only [zp0, zp1, zp2, zp3, zp4]
                  generalize w12x.alloc (.cells #[.int .u8 0, .int .u8 0, .int .u8 0, .int .u8 0, .int .u8 0, .int .u8 0] 101) = w13x at hS S13x ⊢
                  refine wpAnyH_ready (rs := [8]) (by kernel_rfl) (by simp) ?_
                  refine AllReadyH.cons rfl (fun K hK => ?_) ?_
                  · refine step_store_box rfl 101 (.tmp 5) (.tmp 27) rfl w1x.heap.size 101 #[.int .u8 0, .int .u8 0, .int .u8 0, .int .u8 0, .int .u8 0, .int .u8 0] #[.int .u8 x0, .int .u8 x1, .int .u8 x2, .int .u8 x3, .int .u8 x4, .int .u8 x5] rfl rfl (box_at S13x 2 rfl) (by kernel_rfl) rfl (by simp [Value.oneCell']) ?_
                    intro w14x ht hr
                    have S14x := Sl.Sep.put (r' := boxR w1x.heap.size 101 #[.int .u8 x0, .int .u8 x1, .int .u8 x2, .int .u8 x3, .int .u8 x4, .int .u8 x5]) S13x 2 rfl ht hr (fun b hb => hb)
                    clear ht hr
                    refine hK.out _ _ ⟨(box3 S14x 0 rfl).2.1, (box3 S14x 1 rfl).2.1⟩ (fun hS => ?_)
                    clear hK K
                    try simp only [zp0, zp1, zp2, zp3, zp4]
                    refine wpAnyH_ready (rs := [9]) (by kernel_rfl) (by simp) ?_
                    refine AllReadyH.cons rfl (fun K hK => ?_) ?_
                    · refine step_store_box rfl 101 (.tmp 6) (.tmp 30) rfl w12x.heap.size 101 #[.int .u8 0, .int .u8 0, .int .u8 0, .int .u8 0, .int .u8 0, .int .u8 0] #[.int .u8 y0, .int .u8 y1, .int .u8 y2, .int .u8 y3, .int .u8 y4, .int .u8 y5] rfl rfl (box_at S14x 3 rfl) (by kernel_rfl) rfl (by simp [Value.oneCell']) ?_
                      intro w15x ht hr
                      have S15x := Sl.Sep.put (r' := boxR w12x.heap.size 101 #[.int .u8 y0, .int .u8 y1, .int .u8 y2, .int .u8 y3, .int .u8 y4, .int .u8 y5]) S14x 3 rfl ht hr (fun b hb => hb)
                      clear ht hr
                      refine hK.out _ _ ⟨(box3 S15x 0 rfl).2.1, (box3 S15x 1 rfl).2.1⟩ (fun hS => ?_)
                      clear hK K
                      try simp only [zp0, zp1, zp2, zp3, zp4]
                      refine wpAnyH_done (by kernel_rfl) ?_ _
                      go_wp2_with fail
                      go_meet
                      case rel => exact ⟨_, _, rfl, rfl, And.intro (box_at S15x 2 rfl) (And.intro (box_at S15x 3 rfl) (sep_two S15x))⟩
                    exact AllReadyH.nil
                  exact AllReadyH.nil
                exact AllReadyH.nil
              refine AllReadyH.cons rfl (fun K hK => ?_) ?_
              · have S16x := push_box S11x 101 #[.int .u8 0, .int .u8 0, .int .u8 0, .int .u8 0, .int .u8 0, .int .u8 0] w11x.heap.size rfl
                go_simp
                refine hK.out _ _ ⟨(box3 S16x 0 rfl).2.1, (box3 S16x 1 rfl).2.1⟩ (fun hS => ?_)
                clear hK K
                try simp only [zp0, zp1, zp2, zp3, zp4]
                generalize w11x.alloc (.cells #[.int .u8 0, .int .u8 0, .int .u8 0, .int .u8 0, .int .u8 0, .int .u8 0] 101) = w16x at hS S16x ⊢
                refine wpAnyH_ready (rs := [5]) (by kernel_rfl) (by simp) ?_
                refine AllReadyH.cons rfl (fun K hK => ?_) ?_
                · go_simp
                  go_at_call 76
                  refine (HB.out _).mono ?_
                  rintro e w17x ⟨rfl, hb⟩
                  have S17x := Sl.Sep.keep S16x hb
                  clear hb S16x
                  go_wp2_with fail
                  refine hK.out _ _ ⟨(box3 S17x 0 rfl).2.1, (box3 S17x 1 rfl).2.1⟩ (fun hS => ?_)
                  clear hK K
                  try simp only [zp0, zp1, zp2, zp3, zp4]
                  refine wpAnyH_ready (rs := [8]) (by kernel_rfl) (by simp) ?_
                  refine AllReadyH.cons rfl (fun K hK => ?_) ?_
                  · refine step_store_box rfl 101 (.tmp 5) (.tmp 27) rfl w1x.heap.size 101 #[.int .u8 0, .int .u8 0, .int .u8 0, .int .u8 0, .int .u8 0, .int .u8 0] #[.int .u8 x0, .int .u8 x1, .int .u8 x2, .int .u8 x3, .int .u8 x4, .int .u8 x5] rfl rfl (box_at S17x 2 rfl) (by kernel_rfl) rfl (by simp [Value.oneCell']) ?_
                    intro w18x ht hr
                    have S18x := Sl.Sep.put (r' := boxR w1x.heap.size 101 #[.int .u8 x0, .int .u8 x1, .int .u8 x2, .int .u8 x3, .int .u8 x4, .int .u8 x5]) S17x 2 rfl ht hr (fun b hb => hb)
                    clear ht hr
                    refine hK.out _ _ ⟨(box3 S18x 0 rfl).2.1, (box3 S18x 1 rfl).2.1⟩ (fun hS => ?_)
                    clear hK K
                    try simp only [zp0, zp1, zp2, zp3, zp4]
                    refine wpAnyH_ready (rs := [9]) (by kernel_rfl) (by simp) ?_
                    refine AllReadyH.cons rfl (fun K hK => ?_) ?_
                    · refine step_store_box rfl 101 (.tmp 6) (.tmp 30) rfl w11x.heap.size 101 #[.int .u8 0, .int .u8 0, .int .u8 0, .int .u8 0, .int .u8 0, .int .u8 0] #[.int .u8 y0, .int .u8 y1, .int .u8 y2, .int .u8 y3, .int .u8 y4, .int .u8 y5] rfl rfl (box_at S18x 3 rfl) (by kernel_rfl) rfl (by simp [Value.oneCell']) ?_
                      intro w19x ht hr
                      have S19x := Sl.Sep.put (r' := boxR w11x.heap.size 101 #[.int .u8 y0, .int .u8 y1, .int .u8 y2, .int .u8 y3, .int .u8 y4, .int .u8 y5]) S18x 3 rfl ht hr (fun b hb => hb)
                      clear ht hr
                      refine hK.out _ _ ⟨(box3 S19x 0 rfl).2.1, (box3 S19x 1 rfl).2.1⟩ (fun hS => ?_)
                      clear hK K
                      try simp only [zp0, zp1, zp2, zp3, zp4]
                      refine wpAnyH_done (by kernel_rfl) ?_ _
                      go_wp2_with fail
                      go_meet
                      case rel => exact ⟨_, _, rfl, rfl, And.intro (box_at S19x 2 rfl) (And.intro (box_at S19x 3 rfl) (sep_two S19x))⟩
                    exact AllReadyH.nil
                  exact AllReadyH.nil
                exact AllReadyH.nil
              exact AllReadyH.nil
            refine AllReadyH.cons rfl (fun K hK => ?_) ?_
            · have S20x := push_box S1x 101 #[.int .u8 0, .int .u8 0, .int .u8 0, .int .u8 0, .int .u8 0, .int .u8 0] w1x.heap.size rfl
              go_simp
              refine hK.out _ _ ⟨(box3 S20x 0 rfl).2.1, (box3 S20x 1 rfl).2.1⟩ (fun hS => ?_)
              clear hK K
              try simp only [zp0, zp1, zp2, zp3, zp4]
              generalize w1x.alloc (.cells #[.int .u8 0, .int .u8 0, .int .u8 0, .int .u8 0, .int .u8 0, .int .u8 0] 101) = w20x at hS S20x ⊢
              refine wpAnyH_ready (rs := [5, 6]) (by kernel_rfl) (by simp) ?_
              refine AllReadyH.cons rfl (fun K hK => ?_) ?_
              · go_simp
                go_at_call 76
                refine (HB.out _).mono ?_
                rintro e w21x ⟨rfl, hb⟩
                have S21x := Sl.Sep.keep S20x hb
                clear hb S20x
                go_wp2_with fail
                refine hK.out _ _ ⟨(box3 S21x 0 rfl).2.1, (box3 S21x 1 rfl).2.1⟩ (fun hS => ?_)
                clear hK K
                try simp only [zp0, zp1, zp2, zp3, zp4]
                refine wpAnyH_ready (rs := [6]) (by kernel_rfl) (by simp) ?_
                refine AllReadyH.cons rfl (fun K hK => ?_) ?_
                · have S22x := push_box S21x 101 #[.int .u8 0, .int .u8 0, .int .u8 0, .int .u8 0, .int .u8 0, .int .u8 0] w21x.heap.size rfl
                  go_simp
                  refine hK.out _ _ ⟨(box3 S22x 0 rfl).2.1, (box3 S22x 1 rfl).2.1⟩ (fun hS => ?_)
                  clear hK K
                  try simp only [zp0, zp1, zp2, zp3, zp4]
                  generalize w21x.alloc (.cells #[.int .u8 0, .int .u8 0, .int .u8 0, .int .u8 0, .int .u8 0, .int .u8 0] 101) = w22x at hS S22x ⊢
                  refine wpAnyH_ready (rs := [8]) (by kernel_rfl) (by simp) ?_
                  refine AllReadyH.cons rfl (fun K hK => ?_) ?_
                  · refine step_store_box rfl 101 (.tmp 5) (.tmp 27) rfl w21x.heap.size 101 #[.int .u8 0, .int .u8 0, .int .u8 0, .int .u8 0, .int .u8 0, .int .u8 0] #[.int .u8 x0, .int .u8 x1, .int .u8 x2, .int .u8 x3, .int .u8 x4, .int .u8 x5] rfl rfl (box_at S22x 3 rfl) (by kernel_rfl) rfl (by simp [Value.oneCell']) ?_
                    intro w23x ht hr
                    have S23x := Sl.Sep.put (r' := boxR w21x.heap.size 101 #[.int .u8 x0, .int .u8 x1, .int .u8 x2, .int .u8 x3, .int .u8 x4, .int .u8 x5]) S22x 3 rfl ht hr (fun b hb => hb)
                    clear ht hr
                    refine hK.out _ _ ⟨(box3 S23x 0 rfl).2.1, (box3 S23x 1 rfl).2.1⟩ (fun hS => ?_)
                    clear hK K
                    try simp only [zp0, zp1, zp2, zp3, zp4]
                    refine wpAnyH_ready (rs := [9]) (by kernel_rfl) (by simp) ?_
                    refine AllReadyH.cons rfl (fun K hK => ?_) ?_
                    · refine step_store_box rfl 101 (.tmp 6) (.tmp 30) rfl w1x.heap.size 101 #[.int .u8 0, .int .u8 0, .int .u8 0, .int .u8 0, .int .u8 0, .int .u8 0] #[.int .u8 y0, .int .u8 y1, .int .u8 y2, .int .u8 y3, .int .u8 y4, .int .u8 y5] rfl rfl (box_at S23x 2 rfl) (by kernel_rfl) rfl (by simp [Value.oneCell']) ?_
                      intro w24x ht hr
                      have S24x := Sl.Sep.put (r' := boxR w1x.heap.size 101 #[.int .u8 y0, .int .u8 y1, .int .u8 y2, .int .u8 y3, .int .u8 y4, .int .u8 y5]) S23x 2 rfl ht hr (fun b hb => hb)
                      clear ht hr
                      refine hK.out _ _ ⟨(box3 S24x 0 rfl).2.1, (box3 S24x 1 rfl).2.1⟩ (fun hS => ?_)
                      clear hK K
                      try simp only [zp0, zp1, zp2, zp3, zp4]
                      refine wpAnyH_done (by kernel_rfl) ?_ _
                      go_wp2_with fail
                      go_meet
                      case rel => exact ⟨_, _, rfl, rfl, And.intro (box_at S24x 3 rfl) (And.intro (box_at S24x 2 rfl) (sep_two S24x))⟩
                    exact AllReadyH.nil
                  exact AllReadyH.nil
                exact AllReadyH.nil
              refine AllReadyH.cons rfl (fun K hK => ?_) ?_
              · have S25x := push_box S20x 101 #[.int .u8 0, .int .u8 0, .int .u8 0, .int .u8 0, .int .u8 0, .int .u8 0] w20x.heap.size rfl
                go_simp
                refine hK.out _ _ ⟨(box3 S25x 0 rfl).2.1, (box3 S25x 1 rfl).2.1⟩ (fun hS => ?_)
                clear hK K
                try simp only [zp0, zp1, zp2, zp3, zp4]
                generalize w20x.alloc (.cells #[.int .u8 0, .int .u8 0, .int .u8 0, .int .u8 0, .int .u8 0, .int .u8 0] 101) = w25x at hS S25x ⊢
                refine wpAnyH_ready (rs := [5]) (by kernel_rfl) (by simp) ?_
                refine AllReadyH.cons rfl (fun K hK => ?_) ?_
                · go_simp
                  go_at_call 76
                  refine (HB.out _).mono ?_
                  rintro e w26x ⟨rfl, hb⟩
                  have S26x := Sl.Sep.keep S25x hb
                  clear hb S25x
                  go_wp2_with fail
                  refine hK.out _ _ ⟨(box3 S26x 0 rfl).2.1, (box3 S26x 1 rfl).2.1⟩ (fun hS => ?_)
                  clear hK K
                  try simp only [zp0, zp1, zp2, zp3, zp4]
                  refine wpAnyH_ready (rs := [8]) (by kernel_rfl) (by simp) ?_
                  refine AllReadyH.cons rfl (fun K hK => ?_) ?_
                  · refine step_store_box rfl 101 (.tmp 5) (.tmp 27) rfl w20x.heap.size 101 #[.int .u8 0, .int .u8 0, .int .u8 0, .int .u8 0, .int .u8 0, .int .u8 0] #[.int .u8 x0, .int .u8 x1, .int .u8 x2, .int .u8 x3, .int .u8 x4, .int .u8 x5] rfl rfl (box_at S26x 3 rfl) (by kernel_rfl) rfl (by simp [Value.oneCell']) ?_
                    intro w27x ht hr
                    have S27x := Sl.Sep.put (r' := boxR w20x.heap.size 101 #[.int .u8 x0, .int .u8 x1, .int .u8 x2, .int .u8 x3, .int .u8 x4, .int .u8 x5]) S26x 3 rfl ht hr (fun b hb => hb)
                    clear ht hr
                    refine hK.out _ _ ⟨(box3 S27x 0 rfl).2.1, (box3 S27x 1 rfl).2.1⟩ (fun hS => ?_)
                    clear hK K
                    try simp only [zp0, zp1, zp2, zp3, zp4]
                    refine wpAnyH_ready (rs := [9]) (by kernel_rfl) (by simp) ?_
                    refine AllReadyH.cons rfl (fun K hK => ?_) ?_
                    · refine step_store_box rfl 101 (.tmp 6) (.tmp 30) rfl w1x.heap.size 101 #[.int .u8 0, .int .u8 0, .int .u8 0, .int .u8 0, .int .u8 0, .int .u8 0] #[.int .u8 y0, .int .u8 y1, .int .u8 y2, .int .u8 y3, .int .u8 y4, .int .u8 y5] rfl rfl (box_at S27x 2 rfl) (by kernel_rfl) rfl (by simp [Value.oneCell']) ?_
                      intro w28x ht hr
                      have S28x := Sl.Sep.put (r' := boxR w1x.heap.size 101 #[.int .u8 y0, .int .u8 y1, .int .u8 y2, .int .u8 y3, .int .u8 y4, .int .u8 y5]) S27x 2 rfl ht hr (fun b hb => hb)
                      clear ht hr
                      refine hK.out _ _ ⟨(box3 S28x 0 rfl).2.1, (box3 S28x 1 rfl).2.1⟩ (fun hS => ?_)
                      clear hK K
                      try simp only [zp0, zp1, zp2, zp3, zp4]
                      refine wpAnyH_done (by kernel_rfl) ?_ _
                      go_wp2_with fail
                      go_meet
                      case rel => exact ⟨_, _, rfl, rfl, And.intro (box_at S28x 3 rfl) (And.intro (box_at S28x 2 rfl) (sep_two S28x))⟩
                    exact AllReadyH.nil
                  exact AllReadyH.nil
                exact AllReadyH.nil
              exact AllReadyH.nil
            exact AllReadyH.nil
          refine AllReadyH.cons rfl (fun K hK => ?_) ?_
          · have S29x := push_box S4d 101 #[.int .u8 0, .int .u8 0, .int .u8 0, .int .u8 0, .int .u8 0, .int .u8 0] wd.heap.size rfl
            go_simp
            refine hK.out _ _ ⟨(box3 S29x 0 rfl).2.1, (box3 S29x 1 rfl).2.1⟩ (fun hS => ?_)
            clear hK K
            try simp only [zp0, zp1, zp2, zp3, zp4]
            generalize wd.alloc (.cells #[.int .u8 0, .int .u8 0, .int .u8 0, .int .u8 0, .int .u8 0, .int .u8 0] 101) = w29x at hS S29x ⊢
            refine wpAnyH_ready (rs := [2, 7]) (by kernel_rfl) (by simp) ?_
            refine AllReadyH.cons rfl (fun K hK => ?_) ?_
            · go_simp
              go_at_call 76
              refine (HA.out _).mono ?_
              rintro e w30x ⟨rfl, hb⟩
              have S30x := Sl.Sep.keep S29x hb
              clear hb S29x
              go_wp2_with fail
              refine hK.out _ _ ⟨(box3 S30x 0 rfl).2.1, (box3 S30x 1 rfl).2.1⟩ (fun hS => ?_)
              clear hK K
              try simp only [zp0, zp1, zp2, zp3, zp4]
              refine wpAnyH_ready (rs := [5, 7]) (by kernel_rfl) (by simp) ?_
              refine AllReadyH.cons rfl (fun K hK => ?_) ?_
              · go_simp
                go_at_call 76
                refine (HB.out _).mono ?_
                rintro e w31x ⟨rfl, hb⟩
                have S31x := Sl.Sep.keep S30x hb
                clear hb S30x
                go_wp2_with fail
                refine hK.out _ _ ⟨(box3 S31x 0 rfl).2.1, (box3 S31x 1 rfl).2.1⟩ (fun hS => ?_)
                clear hK K
                try simp only [zp0, zp1, zp2, zp3, zp4]
                refine wpAnyH_ready (rs := [7]) (by kernel_rfl) (by simp) ?_
                refine AllReadyH.cons rfl (fun K hK => ?_) ?_
                · have S32x := push_box S31x 101 #[.int .u8 0, .int .u8 0, .int .u8 0, .int .u8 0, .int .u8 0, .int .u8 0] w31x.heap.size rfl
                  go_simp
                  refine hK.out _ _ ⟨(box3 S32x 0 rfl).2.1, (box3 S32x 1 rfl).2.1⟩ (fun hS => ?_)
                  clear hK K
                  try simp only [zp0, zp1, zp2, zp3, zp4]
                  generalize w31x.alloc (.cells #[.int .u8 0, .int .u8 0, .int .u8 0, .int .u8 0, .int .u8 0, .int .u8 0] 101) = w32x at hS S32x ⊢
                  refine wpAnyH_ready (rs := [8]) (by kernel_rfl) (by simp) ?_
                  refine AllReadyH.cons rfl (fun K hK => ?_) ?_
                  · refine step_store_box rfl 101 (.tmp 5) (.tmp 27) rfl wd.heap.size 101 #[.int .u8 0, .int .u8 0, .int .u8 0, .int .u8 0, .int .u8 0, .int .u8 0] #[.int .u8 x0, .int .u8 x1, .int .u8 x2, .int .u8 x3, .int .u8 x4, .int .u8 x5] rfl rfl (box_at S32x 2 rfl) (by kernel_rfl) rfl (by simp [Value.oneCell']) ?_
                    intro w33x ht hr
                    have S33x := Sl.Sep.put (r' := boxR wd.heap.size 101 #[.int .u8 x0, .int .u8 x1, .int .u8 x2, .int .u8 x3, .int .u8 x4, .int .u8 x5]) S32x 2 rfl ht hr (fun b hb => hb)
                    clear ht hr
                    refine hK.out _ _ ⟨(box3 S33x 0 rfl).2.1, (box3 S33x 1 rfl).2.1⟩ (fun hS => ?_)
                    clear hK K
                    try simp only [zp0, zp1, zp2, zp3, zp4]
                    refine wpAnyH_ready (rs := [9]) (by kernel_rfl) (by simp) ?_
                    refine AllReadyH.cons rfl (fun K hK => ?_) ?_
                    · refine step_store_box rfl 101 (.tmp 6) (.tmp 30) rfl w31x.heap.size 101 #[.int .u8 0, .int .u8 0, .int .u8 0, .int .u8 0, .int .u8 0, .int .u8 0] #[.int .u8 y0, .int .u8 y1, .int .u8 y2, .int .u8 y3, .int .u8 y4, .int .u8 y5] rfl rfl (box_at S33x 3 rfl) (by kernel_rfl) rfl (by simp [Value.oneCell']) ?_
                      intro w34x ht hr
                      have S34x := Sl.Sep.put (r' := boxR w31x.heap.size 101 #[.int .u8 y0, .int .u8 y1, .int .u8 y2, .int .u8 y3, .int .u8 y4, .int .u8 y5]) S33x 3 rfl ht hr (fun b hb => hb)
                      clear ht hr
                      refine hK.out _ _ ⟨(box3 S34x 0 rfl).2.1, (box3 S34x 1 rfl).2.1⟩ (fun hS => ?_)
                      clear hK K
                      try simp only [zp0, zp1, zp2, zp3, zp4]
                      refine wpAnyH_done (by kernel_rfl) ?_ _
                      go_wp2_with fail
                      go_meet
                      case rel => exact ⟨_, _, rfl, rfl, And.intro (box_at S34x 2 rfl) (And.intro (box_at S34x 3 rfl) (sep_two S34x))⟩
                    exact AllReadyH.nil
                  exact AllReadyH.nil
                exact AllReadyH.nil
              refine AllReadyH.cons rfl (fun K hK => ?_) ?_
              · have S35x := push_box S30x 101 #[.int .u8 0, .int .u8 0, .int .u8 0, .int .u8 0, .int .u8 0, .int .u8 0] w30x.heap.size rfl
                go_simp
                refine hK.out _ _ ⟨(box3 S35x 0 rfl).2.1, (box3 S35x 1 rfl).2.1⟩ (fun hS => ?_)
                clear hK K
                try simp only [zp0, zp1, zp2, zp3, zp4]
                generalize w30x.alloc (.cells #[.int .u8 0, .int .u8 0, .int .u8 0, .int .u8 0, .int .u8 0, .int .u8 0] 101) = w35x at hS S35x ⊢
                refine wpAnyH_ready (rs := [5]) (by kernel_rfl) (by simp) ?_
                refine AllReadyH.cons rfl (fun K hK => ?_) ?_
                · go_simp
                  go_at_call 76
                  refine (HB.out _).mono ?_
                  rintro e w36x ⟨rfl, hb⟩
                  have S36x := Sl.Sep.keep S35x hb
                  clear hb S35x
                  go_wp2_with fail
                  refine hK.out _ _ ⟨(box3 S36x 0 rfl).2.1, (box3 S36x 1 rfl).2.1⟩ (fun hS => ?_)
                  clear hK K
                  try simp only [zp0, zp1, zp2, zp3, zp4]
                  refine wpAnyH_ready (rs := [8]) (by kernel_rfl) (by simp) ?_
                  refine AllReadyH.cons rfl (fun K hK => ?_) ?_
                  · refine step_store_box rfl 101 (.tmp 5) (.tmp 27) rfl wd.heap.size 101 #[.int .u8 0, .int .u8 0, .int .u8 0, .int .u8 0, .int .u8 0, .int .u8 0] #[.int .u8 x0, .int .u8 x1, .int .u8 x2, .int .u8 x3, .int .u8 x4, .int .u8 x5] rfl rfl (box_at S36x 2 rfl) (by kernel_rfl) rfl (by simp [Value.oneCell']) ?_
                    intro w37x ht hr
                    have S37x := Sl.Sep.put (r' := boxR wd.heap.size 101 #[.int .u8 x0, .int .u8 x1, .int .u8 x2, .int .u8 x3, .int .u8 x4, .int .u8 x5]) S36x 2 rfl ht hr (fun b hb => hb)
                    clear ht hr
                    refine hK.out _ _ ⟨(box3 S37x 0 rfl).2.1, (box3 S37x 1 rfl).2.1⟩ (fun hS => ?_)
                    clear hK K
                    try simp only [zp0, zp1, zp2, zp3, zp4]
                    refine wpAnyH_ready (rs := [9]) (by kernel_rfl) (by simp) ?_
                    refine AllReadyH.cons rfl (fun K hK => ?_) ?_
                    · refine step_store_box rfl 101 (.tmp 6) (.tmp 30) rfl w30x.heap.size 101 #[.int .u8 0, .int .u8 0, .int .u8 0, .int .u8 0, .int .u8 0, .int .u8 0] #[.int .u8 y0, .int .u8 y1, .int .u8 y2, .int .u8 y3, .int .u8 y4, .int .u8 y5] rfl rfl (box_at S37x 3 rfl) (by kernel_rfl) rfl (by simp [Value.oneCell']) ?_
                      intro w38x ht hr
                      have S38x := Sl.Sep.put (r' := boxR w30x.heap.size 101 #[.int .u8 y0, .int .u8 y1, .int .u8 y2, .int .u8 y3, .int .u8 y4, .int .u8 y5]) S37x 3 rfl ht hr (fun b hb => hb)
                      clear ht hr
                      refine hK.out _ _ ⟨(box3 S38x 0 rfl).2.1, (box3 S38x 1 rfl).2.1⟩ (fun hS => ?_)
                      clear hK K
                      try simp only [zp0, zp1, zp2, zp3, zp4]
                      refine wpAnyH_done (by kernel_rfl) ?_ _
                      go_wp2_with fail
                      go_meet
                      case rel => exact ⟨_, _, rfl, rfl, And.intro (box_at S38x 2 rfl) (And.intro (box_at S38x 3 rfl) (sep_two S38x))⟩
                    exact AllReadyH.nil
                  exact AllReadyH.nil
                exact AllReadyH.nil
              exact AllReadyH.nil
            refine AllReadyH.cons rfl (fun K hK => ?_) ?_
            · have S39x := push_box S29x 101 #[.int .u8 0, .int .u8 0, .int .u8 0, .int .u8 0, .int .u8 0, .int .u8 0] w29x.heap.size rfl
              go_simp
              refine hK.out _ _ ⟨(box3 S39x 0 rfl).2.1, (box3 S39x 1 rfl).2.1⟩ (fun hS => ?_)
              clear hK K
              try simp only [zp0, zp1, zp2, zp3, zp4]
              generalize w29x.alloc (.cells #[.int .u8 0, .int .u8 0, .int .u8 0, .int .u8 0, .int .u8 0, .int .u8 0] 101) = w39x at hS S39x ⊢
              refine wpAnyH_ready (rs := [2]) (by kernel_rfl) (by simp) ?_
              refine AllReadyH.cons rfl (fun K hK => ?_) ?_
              · go_simp
                go_at_call 76
                refine (HA.out _).mono ?_
                rintro e w40x ⟨rfl, hb⟩
                have S40x := Sl.Sep.keep S39x hb
                clear hb S39x
                go_wp2_with fail
                refine hK.out _ _ ⟨(box3 S40x 0 rfl).2.1, (box3 S40x 1 rfl).2.1⟩ (fun hS => ?_)
                clear hK K
                try simp only [zp0, zp1, zp2, zp3, zp4]
                refine wpAnyH_ready (rs := [5]) (by kernel_rfl) (by simp) ?_
                refine AllReadyH.cons rfl (fun K hK => ?_) ?_
                · go_simp
                  go_at_call 76
                  refine (HB.out _).mono ?_
                  rintro e w41x ⟨rfl, hb⟩
                  have S41x := Sl.Sep.keep S40x hb
                  clear hb S40x
                  go_wp2_with fail
                  refine hK.out _ _ ⟨(box3 S41x 0 rfl).2.1, (box3 S41x 1 rfl).2.1⟩ (fun hS => ?_)
                  clear hK K
                  try simp only [zp0, zp1, zp2, zp3, zp4]
                  refine wpAnyH_ready (rs := [8]) (by kernel_rfl) (by simp) ?_
                  refine AllReadyH.cons rfl (fun K hK => ?_) ?_
                  · refine step_store_box rfl 101 (.tmp 5) (.tmp 27) rfl wd.heap.size 101 #[.int .u8 0, .int .u8 0, .int .u8 0, .int .u8 0, .int .u8 0, .int .u8 0] #[.int .u8 x0, .int .u8 x1, .int .u8 x2, .int .u8 x3, .int .u8 x4, .int .u8 x5] rfl rfl (box_at S41x 2 rfl) (by kernel_rfl) rfl (by simp [Value.oneCell']) ?_
                    intro w42x ht hr
                    have S42x := Sl.Sep.put (r' := boxR wd.heap.size 101 #[.int .u8 x0, .int .u8 x1, .int .u8 x2, .int .u8 x3, .int .u8 x4, .int .u8 x5]) S41x 2 rfl ht hr (fun b hb => hb)
                    clear ht hr
                    refine hK.out _ _ ⟨(box3 S42x 0 rfl).2.1, (box3 S42x 1 rfl).2.1⟩ (fun hS => ?_)
                    clear hK K
                    try simp only [zp0, zp1, zp2, zp3, zp4]
                    refine wpAnyH_ready (rs := [9]) (by kernel_rfl) (by simp) ?_
                    refine AllReadyH.cons rfl (fun K hK => ?_) ?_
                    · refine step_store_box rfl 101 (.tmp 6) (.tmp 30) rfl w29x.heap.size 101 #[.int .u8 0, .int .u8 0, .int .u8 0, .int .u8 0, .int .u8 0, .int .u8 0] #[.int .u8 y0, .int .u8 y1, .int .u8 y2, .int .u8 y3, .int .u8 y4, .int .u8 y5] rfl rfl (box_at S42x 3 rfl) (by kernel_rfl) rfl (by simp [Value.oneCell']) ?_
                      intro w43x ht hr
                      have S43x := Sl.Sep.put (r' := boxR w29x.heap.size 101 #[.int .u8 y0, .int .u8 y1, .int .u8 y2, .int .u8 y3, .int .u8 y4, .int .u8 y5]) S42x 3 rfl ht hr (fun b hb => hb)
                      clear ht hr
                      refine hK.out _ _ ⟨(box3 S43x 0 rfl).2.1, (box3 S43x 1 rfl).2.1⟩ (fun hS => ?_)
                      clear hK K
                      try simp only [zp0, zp1, zp2, zp3, zp4]
                      refine wpAnyH_done (by kernel_rfl) ?_ _
                      go_wp2_with fail
                      go_meet
                      case rel => exact ⟨_, _, rfl, rfl, And.intro (box_at S43x 2 rfl) (And.intro (box_at S43x 3 rfl) (sep_two S43x))⟩
                    exact AllReadyH.nil
                  exact AllReadyH.nil
                exact AllReadyH.nil
              exact AllReadyH.nil
            exact AllReadyH.nil
          refine AllReadyH.cons rfl (fun K hK => ?_) ?_
          · have S44x := push_box S4d 101 #[.int .u8 0, .int .u8 0, .int .u8 0, .int .u8 0, .int .u8 0, .int .u8 0] wd.heap.size rfl
            go_simp
            refine hK.out _ _ ⟨(box3 S44x 0 rfl).2.1, (box3 S44x 1 rfl).2.1⟩ (fun hS => ?_)
            clear hK K
            try simp only [zp0, zp1, zp2, zp3, zp4]
            generalize wd.alloc (.cells #[.int .u8 0, .int .u8 0, .int .u8 0, .int .u8 0, .int .u8 0, .int .u8 0] 101) = w44x at hS S44x ⊢
            refine wpAnyH_ready (rs := [2, 6]) (by kernel_rfl) (by simp) ?_
            refine AllReadyH.cons rfl (fun K hK => ?_) ?_
            · go_simp
              go_at_call 76
              refine (HA.out _).mono ?_
              rintro e w45x ⟨rfl, hb⟩
              have S45x := Sl.Sep.keep S44x hb
              clear hb S44x
              go_wp2_with fail
              refine hK.out _ _ ⟨(box3 S45x 0 rfl).2.1, (box3 S45x 1 rfl).2.1⟩ (fun hS => ?_)
              clear hK K
              try simp only [zp0, zp1, zp2, zp3, zp4]
              refine wpAnyH_ready (rs := [5, 6]) (by kernel_rfl) (by simp) ?_
              refine AllReadyH.cons rfl (fun K hK => ?_) ?_
              · go_simp
                go_at_call 76
                refine (HB.out _).mono ?_
                rintro e w46x ⟨rfl, hb⟩
                have S46x := Sl.Sep.keep S45x hb
                clear hb S45x
                go_wp2_with fail
                refine hK.out _ _ ⟨(box3 S46x 0 rfl).2.1, (box3 S46x 1 rfl).2.1⟩ (fun hS => ?_)
                clear hK K
                try simp only [zp0, zp1, zp2, zp3, zp4]
                refine wpAnyH_ready (rs := [6]) (by kernel_rfl) (by simp) ?_
                refine AllReadyH.cons rfl (fun K hK => ?_) ?_
                · have S47x := push_box S46x 101 #[.int .u8 0, .int .u8 0, .int .u8 0, .int .u8 0, .int .u8 0, .int .u8 0] w46x.heap.size rfl
                  go_simp
                  refine hK.out _ _ ⟨(box3 S47x 0 rfl).2.1, (box3 S47x 1 rfl).2.1⟩ (fun hS => ?_)
                  clear hK K
                  try simp only [zp0, zp1, zp2, zp3, zp4]
                  generalize w46x.alloc (.cells #[.int .u8 0, .int .u8 0, .int .u8 0, .int .u8 0, .int .u8 0, .int .u8 0] 101) = w47x at hS S47x ⊢
                  refine wpAnyH_ready (rs := [8]) (by kernel_rfl) (by simp) ?_
                  refine AllReadyH.cons rfl (fun K hK => ?_) ?_
                  · refine step_store_box rfl 101 (.tmp 5) (.tmp 27) rfl w46x.heap.size 101 #[.int .u8 0, .int .u8 0, .int .u8 0, .int .u8 0, .int .u8 0, .int .u8 0] #[.int .u8 x0, .int .u8 x1, .int .u8 x2, .int .u8 x3, .int .u8 x4, .int .u8 x5] rfl rfl (box_at S47x 3 rfl) (by kernel_rfl) rfl (by simp [Value.oneCell']) ?_
                    intro w48x ht hr
                    have S48x := Sl.Sep.put (r' := boxR w46x.heap.size 101 #[.int .u8 x0, .int .u8 x1, .int .u8 x2, .int .u8 x3, .int .u8 x4, .int .u8 x5]) S47x 3 rfl ht hr (fun b hb => hb)
                    clear ht hr
                    refine hK.out _ _ ⟨(box3 S48x 0 rfl).2.1, (box3 S48x 1 rfl).2.1⟩ (fun hS => ?_)
                    clear hK K
                    try simp only [zp0, zp1, zp2, zp3, zp4]
                    refine wpAnyH_ready (rs := [9]) (by kernel_rfl) (by simp) ?_
                    refine AllReadyH.cons rfl (fun K hK => ?_) ?_
                    · refine step_store_box rfl 101 (.tmp 6) (.tmp 30) rfl wd.heap.size 101 #[.int .u8 0, .int .u8 0, .int .u8 0, .int .u8 0, .int .u8 0, .int .u8 0] #[.int .u8 y0, .int .u8 y1, .int .u8 y2, .int .u8 y3, .int .u8 y4, .int .u8 y5] rfl rfl (box_at S48x 2 rfl) (by kernel_rfl) rfl (by simp [Value.oneCell']) ?_
                      intro w49x ht hr
                      have S49x := Sl.Sep.put (r' := boxR wd.heap.size 101 #[.int .u8 y0, .int .u8 y1, .int .u8 y2, .int .u8 y3, .int .u8 y4, .int .u8 y5]) S48x 2 rfl ht hr (fun b hb => hb)
                      clear ht hr
                      refine hK.out _ _ ⟨(box3 S49x 0 rfl).2.1, (box3 S49x 1 rfl).2.1⟩ (fun hS => ?_)
                      clear hK K
                      try simp only [zp0, zp1, zp2, zp3, zp4]
                      refine wpAnyH_done (by kernel_rfl) ?_ _
                      go_wp2_with fail
                      go_meet
                      case rel => exact ⟨_, _, rfl, rfl, And.intro (box_at S49x 3 rfl) (And.intro (box_at S49x 2 rfl) (sep_two S49x))⟩
                    exact AllReadyH.nil
                  exact AllReadyH.nil
                exact AllReadyH.nil
              refine AllReadyH.cons rfl (fun K hK => ?_) ?_
              · have S50x := push_box S45x 101 #[.int .u8 0, .int .u8 0, .int .u8 0, .int .u8 0, .int .u8 0, .int .u8 0] w45x.heap.size rfl
                go_simp
                refine hK.out _ _ ⟨(box3 S50x 0 rfl).2.1, (box3 S50x 1 rfl).2.1⟩ (fun hS => ?_)
                clear hK K
                try simp only [zp0, zp1, zp2, zp3, zp4]
                generalize w45x.alloc (.cells #[.int .u8 0, .int .u8 0, .int .u8 0, .int .u8 0, .int .u8 0, .int .u8 0] 101) = w50x at hS S50x ⊢
                refine wpAnyH_ready (rs := [5]) (by kernel_rfl) (by simp) ?_
                refine AllReadyH.cons rfl (fun K hK => ?_) ?_
                · go_simp
                  go_at_call 76
                  refine (HB.out _).mono ?_
                  rintro e w51x ⟨rfl, hb⟩
                  have S51x := Sl.Sep.keep S50x hb
                  clear hb S50x
                  go_wp2_with fail
                  refine hK.out _ _ ⟨(box3 S51x 0 rfl).2.1, (box3 S51x 1 rfl).2.1⟩ (fun hS => ?_)
                  clear hK K
                  try simp only [zp0, zp1, zp2, zp3, zp4]
                  refine wpAnyH_ready (rs := [8]) (by kernel_rfl) (by simp) ?_
                  refine AllReadyH.cons rfl (fun K hK => ?_) ?_
                  · refine step_store_box rfl 101 (.tmp 5) (.tmp 27) rfl w45x.heap.size 101 #[.int .u8 0, .int .u8 0, .int .u8 0, .int .u8 0, .int .u8 0, .int .u8 0] #[.int .u8 x0, .int .u8 x1, .int .u8 x2, .int .u8 x3, .int .u8 x4, .int .u8 x5] rfl rfl (box_at S51x 3 rfl) (by kernel_rfl) rfl (by simp [Value.oneCell']) ?_
                    intro w52x ht hr
                    have S52x := Sl.Sep.put (r' := boxR w45x.heap.size 101 #[.int .u8 x0, .int .u8 x1, .int .u8 x2, .int .u8 x3, .int .u8 x4, .int .u8 x5]) S51x 3 rfl ht hr (fun b hb => hb)
                    clear ht hr
                    refine hK.out _ _ ⟨(box3 S52x 0 rfl).2.1, (box3 S52x 1 rfl).2.1⟩ (fun hS => ?_)
                    clear hK K
                    try simp only [zp0, zp1, zp2, zp3, zp4]
                    refine wpAnyH_ready (rs := [9]) (by kernel_rfl) (by simp) ?_
                    refine AllReadyH.cons rfl (fun K hK => ?_) ?_
                    · refine step_store_box rfl 101 (.tmp 6) (.tmp 30) rfl wd.heap.size 101 #[.int .u8 0, .int .u8 0, .int .u8 0, .int .u8 0, .int .u8 0, .int .u8 0] #[.int .u8 y0, .int .u8 y1, .int .u8 y2, .int .u8 y3, .int .u8 y4, .int .u8 y5] rfl rfl (box_at S52x 2 rfl) (by kernel_rfl) rfl (by simp [Value.oneCell']) ?_
                      intro w53x ht hr
                      have S53x := Sl.Sep.put (r' := boxR wd.heap.size 101 #[.int .u8 y0, .int .u8 y1, .int .u8 y2, .int .u8 y3, .int .u8 y4, .int .u8 y5]) S52x 2 rfl ht hr (fun b hb => hb)
                      clear ht hr
                      refine hK.out _ _ ⟨(box3 S53x 0 rfl).2.1, (box3 S53x 1 rfl).2.1⟩ (fun hS => ?_)
                      clear hK K
                      try simp only [zp0, zp1, zp2, zp3, zp4]
                      refine wpAnyH_done (by kernel_rfl) ?_ _
                      go_wp2_with fail
                      go_meet
                      case rel => exact ⟨_, _, rfl, rfl, And.intro (box_at S53x 3 rfl) (And.intro (box_at S53x 2 rfl) (sep_two S53x))⟩
                    exact AllReadyH.nil
                  exact AllReadyH.nil
                exact AllReadyH.nil
              exact AllReadyH.nil
            refine AllReadyH.cons rfl (fun K hK => ?_) ?_
            · have S54x := push_box S44x 101 #[.int .u8 0, .int .u8 0, .int .u8 0, .int .u8 0, .int .u8 0, .int .u8 0] w44x.heap.size rfl
              go_simp
              refine hK.out _ _ ⟨(box3 S54x 0 rfl).2.1, (box3 S54x 1 rfl).2.1⟩ (fun hS => ?_)
              clear hK K
              try simp only [zp0, zp1, zp2, zp3, zp4]
              generalize w44x.alloc (.cells #[.int .u8 0, .int .u8 0, .int .u8 0, .int .u8 0, .int .u8 0, .int .u8 0] 101) = w54x at hS S54x ⊢
              refine wpAnyH_ready (rs := [2]) (by kernel_rfl) (by simp) ?_
              refine AllReadyH.cons rfl (fun K hK => ?_) ?_
              · go_simp
                go_at_call 76
                refine (HA.out _).mono ?_
                rintro e w55x ⟨rfl, hb⟩
                have S55x := Sl.Sep.keep S54x hb
                clear hb S54x
                go_wp2_with fail
                refine hK.out _ _ ⟨(box3 S55x 0 rfl).2.1, (box3 S55x 1 rfl).2.1⟩ (fun hS => ?_)
                clear hK K
                try simp only [zp0, zp1, zp2, zp3, zp4]
                refine wpAnyH_ready (rs := [5]) (by kernel_rfl) (by simp) ?_
                refine AllReadyH.cons rfl (fun K hK => ?_) ?_
                · go_simp
                  go_at_call 76
                  refine (HB.out _).mono ?_
                  rintro e w56x ⟨rfl, hb⟩
                  have S56x := Sl.Sep.keep S55x hb
                  clear hb S55x
                  go_wp2_with fail
                  refine hK.out _ _ ⟨(box3 S56x 0 rfl).2.1, (box3 S56x 1 rfl).2.1⟩ (fun hS => ?_)
                  clear hK K
                  try simp only [zp0, zp1, zp2, zp3, zp4]
                  refine wpAnyH_ready (rs := [8]) (by kernel_rfl) (by simp) ?_
                  refine AllReadyH.cons rfl (fun K hK => ?_) ?_
                  · refine step_store_box rfl 101 (.tmp 5) (.tmp 27) rfl w44x.heap.size 101 #[.int .u8 0, .int .u8 0, .int .u8 0, .int .u8 0, .int .u8 0, .int .u8 0] #[.int .u8 x0, .int .u8 x1, .int .u8 x2, .int .u8 x3, .int .u8 x4, .int .u8 x5] rfl rfl (box_at S56x 3 rfl) (by kernel_rfl) rfl (by simp [Value.oneCell']) ?_
                    intro w57x ht hr
                    have S57x := Sl.Sep.put (r' := boxR w44x.heap.size 101 #[.int .u8 x0, .int .u8 x1, .int .u8 x2, .int .u8 x3, .int .u8 x4, .int .u8 x5]) S56x 3 rfl ht hr (fun b hb => hb)
                    clear ht hr
                    refine hK.out _ _ ⟨(box3 S57x 0 rfl).2.1, (box3 S57x 1 rfl).2.1⟩ (fun hS => ?_)
                    clear hK K
                    try simp only [zp0, zp1, zp2, zp3, zp4]
                    refine wpAnyH_ready (rs := [9]) (by kernel_rfl) (by simp) ?_
                    refine AllReadyH.cons rfl (fun K hK => ?_) ?_
                    · refine step_store_box rfl 101 (.tmp 6) (.tmp 30) rfl wd.heap.size 101 #[.int .u8 0, .int .u8 0, .int .u8 0, .int .u8 0, .int .u8 0, .int .u8 0] #[.int .u8 y0, .int .u8 y1, .int .u8 y2, .int .u8 y3, .int .u8 y4, .int .u8 y5] rfl rfl (box_at S57x 2 rfl) (by kernel_rfl) rfl (by simp [Value.oneCell']) ?_
                      intro w58x ht hr
                      have S58x := Sl.Sep.put (r' := boxR wd.heap.size 101 #[.int .u8 y0, .int .u8 y1, .int .u8 y2, .int .u8 y3, .int .u8 y4, .int .u8 y5]) S57x 2 rfl ht hr (fun b hb => hb)
                      clear ht hr
                      refine hK.out _ _ ⟨(box3 S58x 0 rfl).2.1, (box3 S58x 1 rfl).2.1⟩ (fun hS => ?_)
                      clear hK K
                      try simp only [zp0, zp1, zp2, zp3, zp4]
                      refine wpAnyH_done (by kernel_rfl) ?_ _
                      go_wp2_with fail
                      go_meet
                      case rel => exact ⟨_, _, rfl, rfl, And.intro (box_at S58x 3 rfl) (And.intro (box_at S58x 2 rfl) (sep_two S58x))⟩
                    exact AllReadyH.nil
                  exact AllReadyH.nil
                exact AllReadyH.nil
              exact AllReadyH.nil
            exact AllReadyH.nil
          exact AllReadyH.nil
        case rest =>
          obtain ⟨g1, g2, rfl, rfl, HR⟩ := hcut
          obtain ⟨p0, p1, p2, p3, p4, p5⟩ := box6 HR.out.1
          obtain ⟨q0, q1, q2, q3, q4, q5⟩ := box6 HR.out.2.1
          have hdec : decide ([x0, x1, x2, x3, x4, x5] = [y0, y1, y2, y3, y4, y5]) = decide (na = nb) := by
            obtain ⟨h1, h2, h3, h4⟩ := HM.out
            by_cases hn : na = nb
            · obtain rfl : ma = mb := by omega
              rw [decide_eq_true hn, decide_eq_true (h3.symm.trans h4)]
            · have hne : ¬ [x0, x1, x2, x3, x4, x5] = [y0, y1, y2, y3, y4, y5] := fun e => by
                rw [← h3, ← h4] at e
                have e2 := congrArg toU e
                rw [toU_toI, toU_toI] at e2
                have p6 : (256 : Nat) ^ 6 = 281474976710656 := by decide
                have g9 := HM2.out
                have := be_inj 6 ma mb (by rw [p6]; omega) (by rw [p6]; omega) e2
                omega
              rw [decide_eq_false hn, decide_eq_false hne]
          have heq : ∀ w, (Op.equalIn 10000 101 (.agg #[.int .u8 x0, .int .u8 x1, .int .u8 x2, .int .u8 x3, .int .u8 x4, .int .u8 x5]) (.agg #[.int .u8 y0, .int .u8 y1, .int .u8 y2, .int .u8 y3, .int .u8 y4, .int .u8 y5])).run Try.prog w = .ok (decide (na = nb)) w := fun w => by
            rw [array_eq, hdec]
          clear hdec
          by_cases hn : na = nb
          · have hd : decide (na = nb) = true := decide_eq_true hn
            rw [hd] at heq
            have HE := Lib.hid (HE1.out hn)
            clear HE1 HE2 hd
            obtain ⟨f0_0, f0_1, f0_2⟩ := L4.box3 HR.out.2.2 0 rfl
            obtain ⟨f1_0, f1_1, f1_2⟩ := L4.box3 HR.out.2.2 1 rfl
            have HC := Lib.hid (fun w => stringsCompare_any sa sb w)
            go_wp2_with (go_at_call 87; refine (HC.out _).mono ?_; rintro e w5 ⟨rfl, rfl⟩)
            go_ret
            refine ⟨?_, HR.out.2.2.old⟩
            rw [HE.out, ByteArray.toList_eq, ByteArray.toList_eq]
            simp [cmpL]
          · have hd : decide (na = nb) = false := decide_eq_false hn
            rw [hd] at heq
            have HE := Lib.hid (HE2.out hn)
            clear HE1 HE2 hd
            have HC := Lib.hid (show ∀ w', Row w' g1 101 #[.int .u8 x0, .int .u8 x1, .int .u8 x2, .int .u8 x3, .int .u8 x4, .int .u8 x5] → Row w' g2 101 #[.int .u8 y0, .int .u8 y1, .int .u8 y2, .int .u8 y3, .int .u8 y4, .int .u8 y5] →
                Calls Try.prog 86 #[.slice (some ⟨g1, 0, none⟩) 6 6, .slice (some ⟨g2, 0, none⟩) 6 6] w' fun e w'' => e = .returned (.int .i64 (sgn (decide (na < nb)) true)) ∧ Drew w' w'' from fun w' r1 r2 => by
              obtain ⟨h1, h2, h3, h4⟩ := HM.out
              have c := implCompareBytes_any (some ⟨g1, 0, none⟩) (some ⟨g2, 0, none⟩) 6 6 (toI (be 6 ma)) (toI (be 6 mb)) w' w'.heap.size (reads_row (t := 101) (by rw [h3]; exact r1)) (reads_row (t := 101) (by rw [h4]; exact r2))
              rw [toU_toI, toU_toI] at c
              have e1 : cmpL (be 6 ma) (be 6 mb) = sgn (decide (na < nb)) true := by
                have p6 : (256 : Nat) ^ 6 = 281474976710656 := by decide
                have g9 := HM2.out
                have l1 := be_less 6 ma mb (by rw [p6]; omega) (by rw [p6]; omega)
                have l2 := be_less 6 mb ma (by rw [p6]; omega) (by rw [p6]; omega)
                by_cases hlt : na < nb
                · rw [decide_eq_true (show ma < mb by omega)] at l1
                  rw [cmpL_less l1, decide_eq_true hlt]
                  rfl
                · rw [decide_eq_true (show mb < ma by omega)] at l2
                  rw [cmpL_more l2, decide_eq_false hlt]
                  rfl
              rw [e1, toI_length, toI_length, be_length, be_length] at c
              exact c)
            go_wp2_with fail
            go_region_held3 (fun _ => True) (exact trivial) ((go_at_call 86; refine (HC.out wc.drew HR.out.1 HR.out.2.1).mono ?_; rintro e w5 ⟨rfl, hd⟩))
            have hold := Lib.hid ((Sl.Sep.drews HR.out.2.2 1).keep (hd.below _)).old
            go_wp2_with fail
            go_ret
            exact ⟨by rw [HE.out]; rfl, hold.out⟩
      · have HE := Lib.hid (cmpK_kind hia hib hk)
        have HC := Lib.hid (fun w => cmpInt_any ka kb hk w)
        go_wp2_with (go_at_call 85; refine (HC.out _).mono ?_; rintro e w5 ⟨rfl, rfl⟩)
        go_ret
        exact ⟨by rw [HE.out]; rfl, S4.old⟩
end Go.Proofs.Ytboefioalkjdaaa.L4

/-
  The contract of chapter 6's IsStore of the program. Conditions: keys' texts of at most 2^40 bytes, at most 2^20 fields and items. (Written by my program gen_l6i.py.)
-/
namespace Go.Proofs.Ytboefioalkjdaaa.L6
set_option maxRecDepth 100000
open L4 (K isK cmpK R inR encU)
open L5 (F isR isN cellsF encR eqR Small)
open Go.ChangeShapes Go.WideShapes Go.ChangeAt Go.RowKit Mem Sl Ex L2 Sv Bag
set_option linter.unusedVariables false
set_option linter.unusedSimpArgs false

set_option maxHeartbeats 8000000 in
theorem isStore_any (y : LS) (hf : FitS y.con) (w : World) (hr : RowsRd w w.heap.size y.rows) :
    Calls Try.prog 50 #[y.v] w fun e w' => e = .returned (.bool (isS y.con)) ∧ Below w.heap.size w w' := by
  obtain ⟨name, a, c, xs, auto⟩ := y
  have HR := Lib.hid (fun w' (h : Below w.heap.size w w') => LS.outer (hr.below h))
  have HX := Lib.hid (fun w' (h : Below w.heap.size w w') => (LS.inner (hr.below h)).more h.size)
  have HF := Lib.hid hf.items
  have HNM := Lib.hid hf.name
  have hl := hf.len
  simp only [LS.con, conI_length] at hl
  dsimp only [LS.con] at HR HX HF HNM
  try unfold LS.v LS.cells LS.con
  try dsimp only
  obtain ⟨N, hN⟩ : ∃ n, n = xs.length := ⟨_, rfl⟩
  rw [← hN] at hl ⊢
  have hl' : (N : Int) ≤ 1048576 := by omega
  have HN := Lib.hid hN
  clear hN hr hf
  obtain ⟨bn, hbn⟩ : ∃ b, isN name.data.toList = b := ⟨_, rfl⟩
  have HIN := fun w => L5.isName_any name HNM.out w
  rw [hbn] at HIN
  replace HIN := Lib.hid HIN
  obtain ⟨ba, hba⟩ : ∃ b, L1.inB auto 0 1000000 = b := ⟨_, rfl⟩
  have HIA := fun w => L1.inRange_any auto 0 1000000 w
  rw [hba] at HIA
  replace HIA := Lib.hid HIA
  have HE := Lib.hid (show isS ⟨name, conI xs, auto⟩ = (isI (conI xs) && (bn && (decide (N ≤ 16) && ba))) from by unfold isS; rw [hbn, hba, conI_length, ← HN.out])
  clear hbn hba
  have S1 := Lib.hid (show Sl.Sep w (w.alloc (.cells #[.string name, .slice a N c, .int .i64 auto] 44)) [L4.boxR w.heap.size 44 #[.string name, .slice a N c, .int .i64 auto]] from L4.push_box (Sl.Sep.start w) 44 #[.string name, .slice a N c, .int .i64 auto] (w.heap.size) (by simp))
  obtain ⟨wa, hwa⟩ : ∃ u, u = (w.alloc (.cells #[.string name, .slice a N c, .int .i64 auto] 44)) := ⟨_, rfl⟩
  rw [← hwa] at S1
  go_enter Try.func50, Try.ntmps50
  go_upto_region 1 with fail
  rw [← hwa]
  clear hwa
  have hh := Bag.cs3 S1.out 0 rfl
  have f0 := hh.1; have f1 := hh.2.1; have f2 := hh.2.2; clear hh
  cases bn with
  | false =>
    go_wp2_with fail
    go_at_call 26
    refine (HIN.out _).mono ?_
    rintro e w1 ⟨rfl, rfl⟩
    go_wp2_with fail
    go_ret
    exact ⟨by rw [HE.out]; simp, S1.out.old⟩
  | true =>
    go_wp2_with fail
    go_at_call 26
    refine (HIN.out _).mono ?_
    rintro e w1 ⟨rfl, rfl⟩
    by_cases h16 : N ≤ 16
    rotate_left
    · have h16i : (16 : Int) < (N : Int) := by omega
      have hd := decide_eq_false h16
      go_wp2_with fail
      go_ret
      exact ⟨by rw [HE.out, hd]; simp, S1.out.old⟩
    have h16i : ¬ (16 : Int) < (N : Int) := by omega
    have HD := Lib.hid (decide_eq_true h16)
    clear h16
    cases ba with
    | false =>
      go_wp2_with fail
      go_at_call 27
      refine (HIA.out _).mono ?_
      rintro e w2 ⟨rfl, rfl⟩
      go_wp2_with fail
      go_ret
      exact ⟨by rw [HE.out]; simp, S1.out.old⟩
    | true =>
      go_wp2_with fail
      go_at_call 27
      refine (HIA.out _).mono ?_
      rintro e w2 ⟨rfl, rfl⟩
      replace HE := Lib.hid (show isS ⟨name, conI xs, auto⟩ = isI (conI xs) from by rw [HE.out, HD.out]; simp)
      clear HD
      go_wp2_with fail
      clear f0 f1 f2
      go_loopw [24] (fun i wr => ∃ k : Nat, k ≤ N ∧ i = .int .i64 k ∧ Hid ((∀ j, j < k → okIx (conI xs) j = true) ∧ Sl.Sep w wr [L4.boxR w.heap.size 44 #[.string name, .slice a N c, .int .i64 auto]])) (fun i _ => N - (intOf i).toNat)
      case atStart => exact ⟨0, Nat.zero_le _, rfl, And.intro (fun j h => absurd h (by omega)) S1.out⟩
      case round =>
        obtain ⟨k, hk, rfl, hrel⟩ := hrel
        have HA := Lib.hid hrel.out.1
        have S2 := Lib.hid hrel.out.2
        clear hrel S1
        by_cases hlt : (k : Int) < (N : Int)
        · skip
          have hkl : k < xs.length := by have := HN.out; omega
          obtain ⟨ad, x, rfl, hx⟩ := readsI_some (HR.out _ S2.out.old) k hkl
          obtain ⟨⟨kd, n, t⟩, ia, ic, l⟩ := x
          have HK := Lib.hid (fun w' (h : Below w.heap.size w w') => readsI_at (HR.out _ h) k _ hx)
          try dsimp only at HK
          have HFI := Lib.hid (fit_at HF.out hx)
          try dsimp only [LI.con] at HFI
          have hci : k < (conI xs).length := by rw [conI_length]; exact hkl
          have HC := Lib.hid (show (conI xs)[k]? = some (⟨⟨kd, n, t⟩, l⟩ : It) from con_of hx)
          obtain ⟨bk, hbk⟩ : ∃ b, isK ⟨kd, n, t⟩ = b := ⟨_, rfl⟩
          have HIK := fun w => L4.implIsKey_any ⟨kd, n, t⟩ (by have : t.size ≤ 1099511627776 := HFI.out.text; show t.size ≤ _; omega) w
          rw [hbk] at HIK
          replace HIK := Lib.hid HIK
          have HBK := Lib.hid hbk
          obtain ⟨br, hbr⟩ : ∃ b, isR l = b := ⟨_, rfl⟩
          have HIR := fun w' (h : Below w.heap.size w w') => L5.isRecord_any ia ic l (by have : l.length ≤ 1048576 := HFI.out.len; omega) HFI.out.small w' (((HX.out _ h).at_ (rowsI_mem hx)).reads)
          rw [hbr] at HIR
          replace HIR := Lib.hid HIR
          have HBR := Lib.hid hbr
          clear hbk hbr hx
          have hh := Bag.cs3 S2.out 0 rfl
          have f0 := hh.1; have f1 := hh.2.1; have f2 := hh.2.2; clear hh
          have hh := HK.out _ S2.out.old
          have f3 := hh.1; have f4 := hh.2.1; have f5 := hh.2.2.1; have f6 := hh.2.2.2; clear hh
          go_upto_region 6 with fail
          clear f0 f1 f2 f3 f4 f5 f6
          have S3 := Lib.hid (show Sl.Sep w _ [L4.boxR w.heap.size 44 #[.string name, .slice (some ad) N c, .int .i64 auto], L4.boxR wr.heap.size 72 #[.int .i64 kd, .int .i64 n, .string t, .slice ia l.length ic]] from L4.push_box S2.out 72 #[.int .i64 kd, .int .i64 n, .string t, .slice ia l.length ic] wr.heap.size rfl)
          clear S2
          obtain ⟨g1, hg⟩ : ∃ g', g' = wr.heap.size := ⟨_, rfl⟩
          rw [← hg] at S3 ⊢
          clear hg
          generalize wr.alloc (.cells #[.int .i64 kd, .int .i64 n, .string t, .slice ia l.length ic] 72) = w3 at S3 ⊢
          have hh := Bag.cs3 S3.out 0 rfl
          have f0 := hh.1; have f1 := hh.2.1; have f2 := hh.2.2; clear hh
          have hh := Bag.cs4 S3.out 1 rfl
          have f3 := hh.1; have f4 := hh.2.1; have f5 := hh.2.2.1; have f6 := hh.2.2.2; clear hh
          have hh := HK.out _ S3.out.old
          have f7 := hh.1; have f8 := hh.2.1; have f9 := hh.2.2.1; have f10 := hh.2.2.2; clear hh
          cases bk with
          | false =>
            go_wp2_with fail
            go_at_call 68
            refine (HIK.out _).mono ?_
            rintro e w4 ⟨rfl, hb⟩
            clear f0 f1 f2 f3 f4 f5 f6 f7 f8 f9 f10
            have S4 := Lib.hid (S3.out.keep hb)
            clear S3
            clear hb
            have hh := Bag.cs3 S4.out 0 rfl
            have f0 := hh.1; have f1 := hh.2.1; have f2 := hh.2.2; clear hh
            have hh := Bag.cs4 S4.out 1 rfl
            have f3 := hh.1; have f4 := hh.2.1; have f5 := hh.2.2.1; have f6 := hh.2.2.2; clear hh
            have hh := HK.out _ S4.out.old
            have f7 := hh.1; have f8 := hh.2.1; have f9 := hh.2.2.1; have f10 := hh.2.2.2; clear hh
            have HNO := Lib.hid (show isI (conI xs) = false from isI_no k hci (by rw [okIx_at HC.out]; dsimp only; rw [HBK.out]; rfl))
            go_wp2_with fail
            go_ret
            exact ⟨by rw [HE.out, HNO.out]; rfl, S4.out.old⟩
          | true =>
            go_wp2_with fail
            go_at_call 68
            refine (HIK.out _).mono ?_
            rintro e w4 ⟨rfl, hb⟩
            clear f0 f1 f2 f3 f4 f5 f6 f7 f8 f9 f10
            have S4 := Lib.hid (S3.out.keep hb)
            clear S3
            clear hb
            have hh := Bag.cs3 S4.out 0 rfl
            have f0 := hh.1; have f1 := hh.2.1; have f2 := hh.2.2; clear hh
            have hh := Bag.cs4 S4.out 1 rfl
            have f3 := hh.1; have f4 := hh.2.1; have f5 := hh.2.2.1; have f6 := hh.2.2.2; clear hh
            have hh := HK.out _ S4.out.old
            have f7 := hh.1; have f8 := hh.2.1; have f9 := hh.2.2.1; have f10 := hh.2.2.2; clear hh
            cases br with
            | false =>
              go_wp2_with fail
              go_at_call 69
              refine (HIR.out _ S4.out.old).mono ?_
              rintro e w5 ⟨rfl, hb⟩
              clear f0 f1 f2 f3 f4 f5 f6 f7 f8 f9 f10
              have S5 := Lib.hid (S4.out.keep hb)
              clear S4
              clear hb
              have hh := Bag.cs3 S5.out 0 rfl
              have f0 := hh.1; have f1 := hh.2.1; have f2 := hh.2.2; clear hh
              have hh := Bag.cs4 S5.out 1 rfl
              have f3 := hh.1; have f4 := hh.2.1; have f5 := hh.2.2.1; have f6 := hh.2.2.2; clear hh
              have hh := HK.out _ S5.out.old
              have f7 := hh.1; have f8 := hh.2.1; have f9 := hh.2.2.1; have f10 := hh.2.2.2; clear hh
              have HNO := Lib.hid (show isI (conI xs) = false from isI_no k hci (by rw [okIx_at HC.out]; dsimp only; rw [HBK.out, HBR.out]; rfl))
              go_wp2_with fail
              go_ret
              exact ⟨by rw [HE.out, HNO.out]; rfl, S5.out.old⟩
            | true =>
              go_wp2_with fail
              go_at_call 69
              refine (HIR.out _ S4.out.old).mono ?_
              rintro e w5 ⟨rfl, hb⟩
              clear f0 f1 f2 f3 f4 f5 f6 f7 f8 f9 f10
              have S5 := Lib.hid (S4.out.keep hb)
              clear S4
              clear hb
              have hh := Bag.cs3 S5.out 0 rfl
              have f0 := hh.1; have f1 := hh.2.1; have f2 := hh.2.2; clear hh
              have hh := Bag.cs4 S5.out 1 rfl
              have f3 := hh.1; have f4 := hh.2.1; have f5 := hh.2.2.1; have f6 := hh.2.2.2; clear hh
              have hh := HK.out _ S5.out.old
              have f7 := hh.1; have f8 := hh.2.1; have f9 := hh.2.2.1; have f10 := hh.2.2.2; clear hh
              rcases Nat.eq_zero_or_pos k with hk0 | hk0
              · have hk1 : (0 < k) = False := by simp; omega
                have HZ := Lib.hid hk0
                clear hk0
                go_upto_region 8 with fail
                clear f0 f1 f2 f3 f4 f5 f6 f7 f8 f9 f10
                refine wp_region_held_drew (S := (fun w' => (World.cell? w' ⟨w.heap.size, 0, none⟩ = some (.string name) ∧ World.cell? w' ⟨w.heap.size, 1, none⟩ = some (.slice (some ad) N c) ∧ World.cell? w' ⟨w.heap.size, 2, none⟩ = some (.int .i64 auto)) ∧ (World.cell? w' ⟨g1, 0, none⟩ = some (.int .i64 kd) ∧ World.cell? w' ⟨g1, 1, none⟩ = some (.int .i64 n) ∧ World.cell? w' ⟨g1, 2, none⟩ = some (.string t) ∧ World.cell? w' ⟨g1, 3, none⟩ = some (.slice ia l.length ic)) ∧ (World.cell? w' (ad.add (k * 4)) = some (.int .i64 kd) ∧ World.cell? w' (⟨(ad.add (k * 4)).block, (ad.add (k * 4)).off + 1, none⟩) = some (.int .i64 n) ∧ World.cell? w' (⟨(ad.add (k * 4)).block, (ad.add (k * 4)).off + 2, none⟩) = some (.string t) ∧ World.cell? w' (⟨(ad.add (k * 4)).block, (ad.add (k * 4)).off + 3, none⟩) = some (.slice ia l.length ic)))) (by kernel_rfl) ⟨Bag.cs3 (Bag.drew1 S5.out) 0 rfl, Bag.cs4 (Bag.drew1 S5.out) 1 rfl, HK.out _ (Bag.drew1 S5.out).old⟩ (fun hS => ?_)
                have S6 := Lib.hid (show Sl.Sep w _ [L4.boxR w.heap.size 44 #[.string name, .slice (some ad) N c, .int .i64 auto], L4.boxR g1 72 #[.int .i64 kd, .int .i64 n, .string t, .slice ia l.length ic]] from Bag.drew1 S5.out)
                clear S5
                generalize World.drew _ = w6 at hS S6 ⊢
                refine tk 0 rfl ?_
                try simp only [zp0, zp1, zp2, zp3, zp4]
                refine tk 1 rfl ?_
                try simp only [zp0, zp1, zp2, zp3, zp4]
                refine tk 2 rfl ?_
                try simp only [zp0, zp1, zp2, zp3, zp4]
                refine sk 3 rfl ?_
                try simp only [zp0, zp1, zp2, zp3, zp4]
                refine sk 4 rfl ?_
                try simp only [zp0, zp1, zp2, zp3, zp4]
                refine sk 5 rfl ?_
                try simp only [zp0, zp1, zp2, zp3, zp4]
                refine sk 6 rfl ?_
                try simp only [zp0, zp1, zp2, zp3, zp4]
                refine sk 7 rfl ?_
                try simp only [zp0, zp1, zp2, zp3, zp4]
                refine sk 8 rfl ?_
                try simp only [zp0, zp1, zp2, zp3, zp4]
                refine sk 9 rfl ?_
                try simp only [zp0, zp1, zp2, zp3, zp4]
                refine sk 10 rfl ?_
                try simp only [zp0, zp1, zp2, zp3, zp4]
                refine sk 11 rfl ?_
                try simp only [zp0, zp1, zp2, zp3, zp4]
                refine Reg.skip_one (i := 12) rfl (by kernel_rfl) (by rfl) (by assumption) ?_
                try simp only [zp0, zp1, zp2, zp3, zp4]
                refine sk 13 rfl ?_
                try simp only [zp0, zp1, zp2, zp3, zp4]
                refine tk 14 rfl ?_
                try simp only [zp0, zp1, zp2, zp3, zp4]
                refine wpAnyH_done (by kernel_rfl) ?_ _
                have hh := Bag.cs3 S6.out 0 rfl
                have f0 := hh.1; have f1 := hh.2.1; have f2 := hh.2.2; clear hh
                have hh := Bag.cs4 S6.out 1 rfl
                have f3 := hh.1; have f4 := hh.2.1; have f5 := hh.2.2.1; have f6 := hh.2.2.2; clear hh
                have hh := HK.out _ S6.out.old
                have f7 := hh.1; have f8 := hh.2.1; have f9 := hh.2.2.1; have f10 := hh.2.2.2; clear hh
                clear f0 f1 f2 f3 f4 f5 f6 f7 f8 f9 f10
                have S7 := Lib.hid (show Sl.Sep w _ [L4.boxR w.heap.size 44 #[.string name, .slice (some ad) N c, .int .i64 auto]] from Bag.take S6.out [0] (by rfl) (by decide))
                clear S6
                go_wp2_with fail
                go_roundw
                case rel => exact ⟨k + 1, by omega, by go_num, And.intro (fun j h => by
                  by_cases e : j < k
                  · exact HA.out j e
                  · obtain rfl : j = k := by omega
                    rw [okIx_at HC.out]; dsimp only; rw [HBK.out, HBR.out, HZ.out]; rfl) S7.out⟩
                case measure => simp [intOf]; omega
              · obtain ⟨m, hkm⟩ : ∃ m, k = m + 1 := ⟨k - 1, by omega⟩
                have hki : (k : Int) - 1 = (m : Int) := by omega
                have HKM := Lib.hid hkm
                have hm0 : m < xs.length := by omega
                have hmi : (m : Int) < (N : Int) := by omega
                have hmw : IntKind.i64.wrap (m : Int) = (m : Int) := IntWalk.i64_in _ ⟨by omega, by omega⟩
                clear hkm
                clear f0 f1 f2 f3 f4 f5 f6 f7 f8 f9 f10
                obtain ⟨ad_, x2, e_, hx2⟩ := readsI_some (HR.out _ S5.out.old) m hm0
                clear e_ ad_
                obtain ⟨⟨kd2, n2, t2⟩, ia2, ic2, l2⟩ := x2
                have HK2 := Lib.hid (fun w' (h : Below w.heap.size w w') => readsI_at (HR.out _ h) m _ hx2)
                try dsimp only at HK2
                have HC2 := Lib.hid (show (conI xs)[m]? = some (⟨⟨kd2, n2, t2⟩, l2⟩ : It) from con_of hx2)
                have HFI2 := Lib.hid (fit_at HF.out hx2)
                clear hx2
                obtain ⟨cv, hcv⟩ : ∃ b, cmpK ⟨kd2, n2, t2⟩ ⟨kd, n, t⟩ = b := ⟨_, rfl⟩
                have HCMP := fun w => L4.implCompareKeys_any ⟨kd2, n2, t2⟩ ⟨kd, n, t⟩ (by have : t2.size ≤ 1099511627776 := HFI2.out.text; show t2.size ≤ _; omega) (by have : t.size ≤ 1099511627776 := HFI.out.text; show t.size ≤ _; omega) w
                rw [hcv] at HCMP
                replace HCMP := Lib.hid HCMP
                have HCV := Lib.hid hcv
                clear hcv
                have hh := Bag.cs3 S5.out 0 rfl
                have f0 := hh.1; have f1 := hh.2.1; have f2 := hh.2.2; clear hh
                have hh := Bag.cs4 S5.out 1 rfl
                have f3 := hh.1; have f4 := hh.2.1; have f5 := hh.2.2.1; have f6 := hh.2.2.2; clear hh
                have hh := HK.out _ S5.out.old
                have f7 := hh.1; have f8 := hh.2.1; have f9 := hh.2.2.1; have f10 := hh.2.2.2; clear hh
                have hh := HK2.out _ S5.out.old
                have f11 := hh.1; have f12 := hh.2.1; have f13 := hh.2.2.1; have f14 := hh.2.2.2; clear hh
                by_cases hc : cv < 0
                · have hc2 : ¬ 0 ≤ cv := by omega
                  go_upto_region 8 with fail
                  clear f0 f1 f2 f3 f4 f5 f6 f7 f8 f9 f10 f11 f12 f13 f14
                  refine wp_region_held_drew (S := (fun w' => (World.cell? w' ⟨w.heap.size, 0, none⟩ = some (.string name) ∧ World.cell? w' ⟨w.heap.size, 1, none⟩ = some (.slice (some ad) N c) ∧ World.cell? w' ⟨w.heap.size, 2, none⟩ = some (.int .i64 auto)) ∧ (World.cell? w' ⟨g1, 0, none⟩ = some (.int .i64 kd) ∧ World.cell? w' ⟨g1, 1, none⟩ = some (.int .i64 n) ∧ World.cell? w' ⟨g1, 2, none⟩ = some (.string t) ∧ World.cell? w' ⟨g1, 3, none⟩ = some (.slice ia l.length ic)) ∧ (World.cell? w' (ad.add (k * 4)) = some (.int .i64 kd) ∧ World.cell? w' (⟨(ad.add (k * 4)).block, (ad.add (k * 4)).off + 1, none⟩) = some (.int .i64 n) ∧ World.cell? w' (⟨(ad.add (k * 4)).block, (ad.add (k * 4)).off + 2, none⟩) = some (.string t) ∧ World.cell? w' (⟨(ad.add (k * 4)).block, (ad.add (k * 4)).off + 3, none⟩) = some (.slice ia l.length ic)) ∧ (World.cell? w' (ad.add (m * 4)) = some (.int .i64 kd2) ∧ World.cell? w' (⟨(ad.add (m * 4)).block, (ad.add (m * 4)).off + 1, none⟩) = some (.int .i64 n2) ∧ World.cell? w' (⟨(ad.add (m * 4)).block, (ad.add (m * 4)).off + 2, none⟩) = some (.string t2) ∧ World.cell? w' (⟨(ad.add (m * 4)).block, (ad.add (m * 4)).off + 3, none⟩) = some (.slice ia2 l2.length ic2)))) (by kernel_rfl) ⟨Bag.cs3 (Bag.drew1 S5.out) 0 rfl, Bag.cs4 (Bag.drew1 S5.out) 1 rfl, HK.out _ (Bag.drew1 S5.out).old, HK2.out _ (Bag.drew1 S5.out).old⟩ (fun hS => ?_)
                  have S6 := Lib.hid (show Sl.Sep w _ [L4.boxR w.heap.size 44 #[.string name, .slice (some ad) N c, .int .i64 auto], L4.boxR g1 72 #[.int .i64 kd, .int .i64 n, .string t, .slice ia l.length ic]] from Bag.drew1 S5.out)
                  clear S5
                  generalize World.drew _ = w6 at hS S6 ⊢
                  refine tk 0 rfl ?_
                  try simp only [zp0, zp1, zp2, zp3, zp4]
                  refine tk 1 rfl ?_
                  try simp only [zp0, zp1, zp2, zp3, zp4]
                  refine tk 2 rfl ?_
                  try simp only [zp0, zp1, zp2, zp3, zp4]
                  refine tk 3 rfl ?_
                  try simp only [zp0, zp1, zp2, zp3, zp4]
                  refine tk 4 rfl ?_
                  try simp only [zp0, zp1, zp2, zp3, zp4]
                  refine tk 5 rfl ?_
                  try simp only [zp0, zp1, zp2, zp3, zp4]
                  refine tk 6 rfl ?_
                  try simp only [zp0, zp1, zp2, zp3, zp4]
                  refine tk 7 rfl ?_
                  try simp only [zp0, zp1, zp2, zp3, zp4]
                  refine tk 8 rfl ?_
                  try simp only [zp0, zp1, zp2, zp3, zp4]
                  refine tk 9 rfl ?_
                  try simp only [zp0, zp1, zp2, zp3, zp4]
                  refine tk 10 rfl ?_
                  try simp only [zp0, zp1, zp2, zp3, zp4]
                  refine tk 11 rfl ?_
                  try simp only [zp0, zp1, zp2, zp3, zp4]
                  refine Reg.one_op (i := 12) rfl (by kernel_rfl) (fun K hK => ?_)
                  go_simp
                  go_at_call 70
                  refine (HCMP.out _).mono ?_
                  rintro e w7 ⟨rfl, hb⟩
                  have S7 := Lib.hid (S6.out.keep hb)
                  clear S6
                  clear hb
                  go_wp2_with fail
                  refine hK.out _ _ ⟨Bag.cs3 S7.out 0 rfl, Bag.cs4 S7.out 1 rfl, HK.out _ S7.out.old, HK2.out _ S7.out.old⟩ (fun hS => ?_)
                  clear hK K
                  try simp only [zp0, zp1, zp2, zp3, zp4]
                  refine tk 13 rfl ?_
                  try simp only [zp0, zp1, zp2, zp3, zp4]
                  refine tk 14 rfl ?_
                  try simp only [zp0, zp1, zp2, zp3, zp4]
                  refine wpAnyH_done (by kernel_rfl) ?_ _
                  have hh := Bag.cs3 S7.out 0 rfl
                  have f0 := hh.1; have f1 := hh.2.1; have f2 := hh.2.2; clear hh
                  have hh := Bag.cs4 S7.out 1 rfl
                  have f3 := hh.1; have f4 := hh.2.1; have f5 := hh.2.2.1; have f6 := hh.2.2.2; clear hh
                  have hh := HK.out _ S7.out.old
                  have f7 := hh.1; have f8 := hh.2.1; have f9 := hh.2.2.1; have f10 := hh.2.2.2; clear hh
                  have hh := HK2.out _ S7.out.old
                  have f11 := hh.1; have f12 := hh.2.1; have f13 := hh.2.2.1; have f14 := hh.2.2.2; clear hh
                  clear f0 f1 f2 f3 f4 f5 f6 f7 f8 f9 f10 f11 f12 f13 f14
                  have S8 := Lib.hid (show Sl.Sep w _ [L4.boxR w.heap.size 44 #[.string name, .slice (some ad) N c, .int .i64 auto]] from Bag.take S7.out [0] (by rfl) (by decide))
                  clear S7
                  go_wp2_with fail
                  go_roundw
                  case rel => exact ⟨k + 1, by omega, by go_num, And.intro (fun j h => by
                    by_cases e : j < k
                    · exact HA.out j e
                    · obtain rfl : j = k := by omega
                      rw [okIx_at HC.out, HKM.out, behind_at HC2.out]; dsimp only; rw [HBK.out, HBR.out, HCV.out]; simpa using hc) S8.out⟩
                  case measure => simp [intOf]; omega
                · have hc2 : 0 ≤ cv := by omega
                  go_upto_region 8 with fail
                  clear f0 f1 f2 f3 f4 f5 f6 f7 f8 f9 f10 f11 f12 f13 f14
                  refine wp_region_held_drew (S := (fun w' => (World.cell? w' ⟨w.heap.size, 0, none⟩ = some (.string name) ∧ World.cell? w' ⟨w.heap.size, 1, none⟩ = some (.slice (some ad) N c) ∧ World.cell? w' ⟨w.heap.size, 2, none⟩ = some (.int .i64 auto)) ∧ (World.cell? w' ⟨g1, 0, none⟩ = some (.int .i64 kd) ∧ World.cell? w' ⟨g1, 1, none⟩ = some (.int .i64 n) ∧ World.cell? w' ⟨g1, 2, none⟩ = some (.string t) ∧ World.cell? w' ⟨g1, 3, none⟩ = some (.slice ia l.length ic)) ∧ (World.cell? w' (ad.add (k * 4)) = some (.int .i64 kd) ∧ World.cell? w' (⟨(ad.add (k * 4)).block, (ad.add (k * 4)).off + 1, none⟩) = some (.int .i64 n) ∧ World.cell? w' (⟨(ad.add (k * 4)).block, (ad.add (k * 4)).off + 2, none⟩) = some (.string t) ∧ World.cell? w' (⟨(ad.add (k * 4)).block, (ad.add (k * 4)).off + 3, none⟩) = some (.slice ia l.length ic)) ∧ (World.cell? w' (ad.add (m * 4)) = some (.int .i64 kd2) ∧ World.cell? w' (⟨(ad.add (m * 4)).block, (ad.add (m * 4)).off + 1, none⟩) = some (.int .i64 n2) ∧ World.cell? w' (⟨(ad.add (m * 4)).block, (ad.add (m * 4)).off + 2, none⟩) = some (.string t2) ∧ World.cell? w' (⟨(ad.add (m * 4)).block, (ad.add (m * 4)).off + 3, none⟩) = some (.slice ia2 l2.length ic2)))) (by kernel_rfl) ⟨Bag.cs3 (Bag.drew1 S5.out) 0 rfl, Bag.cs4 (Bag.drew1 S5.out) 1 rfl, HK.out _ (Bag.drew1 S5.out).old, HK2.out _ (Bag.drew1 S5.out).old⟩ (fun hS => ?_)
                  have S6 := Lib.hid (show Sl.Sep w _ [L4.boxR w.heap.size 44 #[.string name, .slice (some ad) N c, .int .i64 auto], L4.boxR g1 72 #[.int .i64 kd, .int .i64 n, .string t, .slice ia l.length ic]] from Bag.drew1 S5.out)
                  clear S5
                  generalize World.drew _ = w6 at hS S6 ⊢
                  refine tk 0 rfl ?_
                  try simp only [zp0, zp1, zp2, zp3, zp4]
                  refine tk 1 rfl ?_
                  try simp only [zp0, zp1, zp2, zp3, zp4]
                  refine tk 2 rfl ?_
                  try simp only [zp0, zp1, zp2, zp3, zp4]
                  refine tk 3 rfl ?_
                  try simp only [zp0, zp1, zp2, zp3, zp4]
                  refine tk 4 rfl ?_
                  try simp only [zp0, zp1, zp2, zp3, zp4]
                  refine tk 5 rfl ?_
                  try simp only [zp0, zp1, zp2, zp3, zp4]
                  refine tk 6 rfl ?_
                  try simp only [zp0, zp1, zp2, zp3, zp4]
                  refine tk 7 rfl ?_
                  try simp only [zp0, zp1, zp2, zp3, zp4]
                  refine tk 8 rfl ?_
                  try simp only [zp0, zp1, zp2, zp3, zp4]
                  refine tk 9 rfl ?_
                  try simp only [zp0, zp1, zp2, zp3, zp4]
                  refine tk 10 rfl ?_
                  try simp only [zp0, zp1, zp2, zp3, zp4]
                  refine tk 11 rfl ?_
                  try simp only [zp0, zp1, zp2, zp3, zp4]
                  refine Reg.one_op (i := 12) rfl (by kernel_rfl) (fun K hK => ?_)
                  go_simp
                  go_at_call 70
                  refine (HCMP.out _).mono ?_
                  rintro e w7 ⟨rfl, hb⟩
                  have S7 := Lib.hid (S6.out.keep hb)
                  clear S6
                  clear hb
                  go_wp2_with fail
                  refine hK.out _ _ ⟨Bag.cs3 S7.out 0 rfl, Bag.cs4 S7.out 1 rfl, HK.out _ S7.out.old, HK2.out _ S7.out.old⟩ (fun hS => ?_)
                  clear hK K
                  try simp only [zp0, zp1, zp2, zp3, zp4]
                  refine tk 13 rfl ?_
                  try simp only [zp0, zp1, zp2, zp3, zp4]
                  refine tk 14 rfl ?_
                  try simp only [zp0, zp1, zp2, zp3, zp4]
                  refine wpAnyH_done (by kernel_rfl) ?_ _
                  have hh := Bag.cs3 S7.out 0 rfl
                  have f0 := hh.1; have f1 := hh.2.1; have f2 := hh.2.2; clear hh
                  have hh := Bag.cs4 S7.out 1 rfl
                  have f3 := hh.1; have f4 := hh.2.1; have f5 := hh.2.2.1; have f6 := hh.2.2.2; clear hh
                  have hh := HK.out _ S7.out.old
                  have f7 := hh.1; have f8 := hh.2.1; have f9 := hh.2.2.1; have f10 := hh.2.2.2; clear hh
                  have hh := HK2.out _ S7.out.old
                  have f11 := hh.1; have f12 := hh.2.1; have f13 := hh.2.2.1; have f14 := hh.2.2.2; clear hh
                  have HNO := Lib.hid (show isI (conI xs) = false from isI_no k hci (by rw [okIx_at HC.out, HKM.out, behind_at HC2.out]; dsimp only; rw [HBK.out, HBR.out, HCV.out]; simpa using hc2))
                  go_wp2_with fail
                  go_ret
                  exact ⟨by rw [HE.out, HNO.out]; rfl, S7.out.old⟩
        · skip
          obtain rfl : k = N := by omega
          have HI := Lib.hid (isI_all (xs := conI xs) (fun i hi => HA.out i (by rw [conI_length] at hi; have := HN.out; omega)))
          go_wp2_with fail
          go_ret
          exact ⟨by rw [HE.out, HI.out]; rfl, S2.out.old⟩
end Go.Proofs.Ytboefioalkjdaaa.L6

/-
  The contracts of the program's closures over items, itemsWhere, numberIn, cmp.Compare, cmp.Or. Conditions: keys' texts of at most 2^40 bytes, at most 2^20 fields and items. (Written by my program gen_l7f.py.)
-/
namespace Go.Proofs.Ytboefioalkjdaaa.L7
set_option maxRecDepth 100000
open L4 (K isK cmpK R inR encU)
open L5 (F isR isN cellsF encR eqR Small getO getN getB)
open L6
open Go.ChangeShapes Go.WideShapes Go.ChangeAt Go.RowKit Mem Sl Ex L2 Sv Bag
set_option linter.unusedVariables false
set_option linter.unusedSimpArgs false

theorem filt_take {f : It → Bool} {xs : List It} {k : Nat} {x : It} (h : xs[k]? = some x) : (xs.take (k + 1)).filter f = (xs.take k).filter f ++ (if f x then [x] else []) := by
  obtain ⟨hk, rfl⟩ := List.getElem?_eq_some_iff.1 h
  rw [List.take_succ_eq_append_getElem hk, List.filter_append]
  congr 1
  by_cases h1 : f xs[k] = true
  · simp [h1]
  · simp [h1]
def Tests1 (Fn g : Nat) (f : It → Bool) (xs : List LI) (w : World) : Prop :=
  ∀ x ∈ xs, ∀ w', Below w.heap.size w w' → Calls Try.prog Fn #[.agg #[.int .i64 x.k.kind, .int .i64 x.k.n, .string x.k.text, .slice x.a x.l.length x.c], .pointer (some ⟨g, 0, none⟩)] w' fun e w'' => e = .returned (.bool (f x.con)) ∧ Below w'.heap.size w' w''
set_option maxHeartbeats 8000000 in
theorem itemsWhereB_any (g : Nat) (f : It → Bool) (y : LS) (hf : FitS y.con) (w : World) (hp : Tests1 103 g f y.xs w) (hr : RowsRd w w.heap.size y.rows) :
    Calls Try.prog 102 #[y.v, .func (.func 103) #[] #[.pointer (some ⟨g, 0, none⟩)]] w (GaveIs w (y.con.items.filter f)) := by
  obtain ⟨i0, hi1, hi2, hi3, hi4⟩ := itemInfo
  have HI := Lib.hid (And.intro hi1 (And.intro hi2 (And.intro hi3 hi4)))
  clear hi1 hi2 hi3 hi4
  have HP := Lib.hid hp
  clear hp
  obtain ⟨name, a, c, xs, auto⟩ := y
  have HR := Lib.hid (fun w' (h : Below w.heap.size w w') => LS.outer (hr.below h))
  have HX := Lib.hid (fun w' (h : Below w.heap.size w w') => (LS.inner (hr.below h)).more h.size)
  have HF := Lib.hid hf.items
  have HNM := Lib.hid hf.name
  have hl := hf.len
  simp only [LS.con, conI_length] at hl
  dsimp only [LS.con] at HR HX HF HNM
  try unfold LS.v LS.cells LS.con
  try dsimp only
  obtain ⟨N, hN⟩ : ∃ n, n = xs.length := ⟨_, rfl⟩
  rw [← hN] at hl ⊢
  have hl' : (N : Int) ≤ 1048576 := by omega
  have HN := Lib.hid hN
  clear hN hr hf
  have S1 := Lib.hid (show Sl.Sep w (w.alloc (.cells #[.string name, .slice a N c, .int .i64 auto] 44)) [L4.boxR w.heap.size 44 #[.string name, .slice a N c, .int .i64 auto]] from L4.push_box (Sl.Sep.start w) 44 #[.string name, .slice a N c, .int .i64 auto] (w.heap.size) (by simp))
  obtain ⟨wa, hwa⟩ : ∃ u, u = (w.alloc (.cells #[.string name, .slice a N c, .int .i64 auto] 44)) := ⟨_, rfl⟩
  rw [← hwa] at S1
  go_enter Try.func102, Try.ntmps102
  go_upto_region 1 with fail
  rw [← hwa]
  clear hwa
  go_upto_region 2 with fail
  have S2 := Lib.hid (show Sl.Sep w _ [L4.boxR w.heap.size 44 #[.string name, .slice a N c, .int .i64 auto], Sv.ownV 72 4 (some ⟨wa.heap.size, 0, none⟩) 0 0 (cellsI [])] from Sv.push_own S1.out ((Below.refl _ _).alloc (Nat.le_refl _) _) (OwnV.madeAt wa 72 4 0 wa.heap.size #[] rfl (Nat.le_refl _) rfl (by decide)))
  clear S1
  obtain ⟨g1, hg⟩ : ∃ g', g' = wa.heap.size := ⟨_, rfl⟩
  rw [← hg] at S2 ⊢
  clear hg
  generalize wa.alloc (.cells #[] 72) = w1 at S2 ⊢
  have S3 := Lib.hid (show Sl.Sep w _ [L4.boxR w.heap.size 44 #[.string name, .slice a N c, .int .i64 auto], Sv.ownV 72 4 (some ⟨g1, 0, none⟩) 0 0 (cellsI []), Bag.bag (rowsI [])] from Bag.push_bag S2.out (Below.refl _ _) (Bag.BagOwn.nil _ _))
  clear S2
  have hh := Bag.cs3 S3.out 0 rfl
  have f0 := hh.1; have f1 := hh.2.1; have f2 := hh.2.2; clear hh
  go_wp2_with fail
  clear f0 f1 f2
  go_loopw [5, 12] (fun v i wr => ∃ (k m : Nat) (A : Option Addr) (C : Nat) (ys : List LI), k ≤ N ∧ i = .int .i64 k ∧ v = .slice A m C ∧ m ≤ k ∧ Hid ((m = ys.length ∧ conI ys = ((conI xs).take k).filter f) ∧ Sl.Sep w wr [L4.boxR w.heap.size 44 #[.string name, .slice a N c, .int .i64 auto], Sv.ownV 72 4 A C m (cellsI ys), Bag.bag (rowsI ys)])) (fun _ i _ => N - (intOf i).toNat)
  case atStart => exact ⟨0, 0, _, _, [], Nat.zero_le _, rfl, rfl, Nat.le_refl _, And.intro ⟨rfl, rfl⟩ S3.out⟩
  case round =>
    obtain ⟨k, m, A, C, ys, hk, rfl, rfl, hmk, hrel⟩ := hrel
    have HC := Lib.hid hrel.out.1
    have S4 := Lib.hid hrel.out.2
    clear hrel S3
    by_cases hlt : (k : Int) < (N : Int)
    · skip
      have hkl : k < xs.length := by have := HN.out; omega
      obtain ⟨ad, x, rfl, hx⟩ := readsI_some (HR.out _ S4.out.old) k hkl
      obtain ⟨⟨kd, n, t⟩, ia, ic, l⟩ := x
      have HK := Lib.hid (fun w' (h : Below w.heap.size w w') => readsI_at (HR.out _ h) k _ hx)
      try dsimp only at HK
      have HFI := Lib.hid (fit_at HF.out hx)
      try dsimp only [LI.con] at HFI
      have HCI := Lib.hid (fun w' (h : Below w.heap.size w w') => copyItem_any kd n t ia ic l HFI.out.len w' (((HX.out _ h).at_ (rowsI_mem hx)).reads))
      try dsimp only at HCI
      have HPX := fun w' (h : Below w.heap.size w w') => HP.out _ (List.mem_of_getElem? hx) w' h
      obtain ⟨b, hb⟩ : ∃ b, f (⟨⟨kd, n, t⟩, l⟩ : It) = b := ⟨_, rfl⟩
      unfold LI.con at HPX
      dsimp only at HPX
      rw [hb] at HPX
      replace HPX := Lib.hid HPX
      have HT := Lib.hid (filt_take (f := f) (show (conI xs)[k]? = some (⟨⟨kd, n, t⟩, l⟩ : It) from con_of hx))
      have HB := Lib.hid hb
      clear hx hb
      have hh := Bag.cs3 S4.out 0 rfl
      have f0 := hh.1; have f1 := hh.2.1; have f2 := hh.2.2; clear hh
      have hh := HK.out _ S4.out.old
      have f3 := hh.1; have f4 := hh.2.1; have f5 := hh.2.2.1; have f6 := hh.2.2.2; clear hh
      go_upto_region 5 with fail
      clear f0 f1 f2 f3 f4 f5 f6
      have S5 := Lib.hid (show Sl.Sep w _ [L4.boxR w.heap.size 44 #[.string name, .slice (some ad) N c, .int .i64 auto], Sv.ownV 72 4 A C m (cellsI ys), Bag.bag (rowsI ys), L4.boxR wr.heap.size 72 #[.int .i64 kd, .int .i64 n, .string t, .slice ia l.length ic]] from L4.push_box S4.out 72 #[.int .i64 kd, .int .i64 n, .string t, .slice ia l.length ic] wr.heap.size rfl)
      clear S4
      obtain ⟨g2, hg⟩ : ∃ g', g' = wr.heap.size := ⟨_, rfl⟩
      rw [← hg] at S5 ⊢
      clear hg
      generalize wr.alloc (.cells #[.int .i64 kd, .int .i64 n, .string t, .slice ia l.length ic] 72) = w2 at S5 ⊢
      have hh := Bag.cs3 S5.out 0 rfl
      have f0 := hh.1; have f1 := hh.2.1; have f2 := hh.2.2; clear hh
      have hh := Bag.cs4 S5.out 3 rfl
      have f3 := hh.1; have f4 := hh.2.1; have f5 := hh.2.2.1; have f6 := hh.2.2.2; clear hh
      have hh := HK.out _ S5.out.old
      have f7 := hh.1; have f8 := hh.2.1; have f9 := hh.2.2.1; have f10 := hh.2.2.2; clear hh
      go_wp2_with fail
      go_at_call 103
      refine (HPX.out _ S5.out.old).mono ?_
      rintro e w3 ⟨rfl, hb⟩
      clear f0 f1 f2 f3 f4 f5 f6 f7 f8 f9 f10
      have S6 := Lib.hid (S5.out.keep hb)
      clear S5
      clear hb
      have hh := Bag.cs3 S6.out 0 rfl
      have f0 := hh.1; have f1 := hh.2.1; have f2 := hh.2.2; clear hh
      have hh := Bag.cs4 S6.out 3 rfl
      have f3 := hh.1; have f4 := hh.2.1; have f5 := hh.2.2.1; have f6 := hh.2.2.2; clear hh
      have hh := HK.out _ S6.out.old
      have f7 := hh.1; have f8 := hh.2.1; have f9 := hh.2.2.1; have f10 := hh.2.2.2; clear hh
      cases b with
      | false =>
        clear f0 f1 f2 f3 f4 f5 f6 f7 f8 f9 f10
        have S7 := Lib.hid (show Sl.Sep w _ [L4.boxR w.heap.size 44 #[.string name, .slice (some ad) N c, .int .i64 auto], Sv.ownV 72 4 A C m (cellsI ys), Bag.bag (rowsI ys)] from Bag.take S6.out [0, 1, 2] (by rfl) (by decide))
        clear S6
        go_wp2_with fail
        go_roundw
        case rel => exact ⟨k + 1, m, A, C, ys, by omega, by go_num, rfl, by omega, And.intro ⟨HC.out.1, by rw [HT.out, HB.out, HC.out.2]; simp⟩ S7.out⟩
        case measure => simp [intOf]; omega
      | true =>
        go_wp2_with fail
        go_at_call 114
        refine (HCI.out _ S6.out.old).mono ?_
        rintro e w4 ⟨a1, c1, rfl, ho, hb⟩
        clear f0 f1 f2 f3 f4 f5 f6 f7 f8 f9 f10
        have S7 := Lib.hid (show Sl.Sep w _ [L4.boxR w.heap.size 44 #[.string name, .slice (some ad) N c, .int .i64 auto], Sv.ownV 72 4 A C m (cellsI ys), Bag.bag (rowsI ys), L4.boxR g2 72 #[.int .i64 kd, .int .i64 n, .string t, .slice ia l.length ic], Bag.bag ([(LI.mk ⟨kd, n, t⟩ a1 c1 l).row])] from Bag.push_bag S6.out hb ho)
        clear S6
        clear hb ho
        have hh := Bag.cs3 S7.out 0 rfl
        have f0 := hh.1; have f1 := hh.2.1; have f2 := hh.2.2; clear hh
        have hh := Bag.cs4 S7.out 3 rfl
        have f3 := hh.1; have f4 := hh.2.1; have f5 := hh.2.2.1; have f6 := hh.2.2.2; clear hh
        have hh := HK.out _ S7.out.old
        have f7 := hh.1; have f8 := hh.2.1; have f9 := hh.2.2.1; have f10 := hh.2.2.2; clear hh
        have S8 := Lib.hid (show Sl.Sep w _ [L4.boxR w.heap.size 44 #[.string name, .slice (some ad) N c, .int .i64 auto], Sv.ownV 72 4 A C m (cellsI ys), Bag.bag (rowsI ys), L4.boxR g2 72 #[.int .i64 kd, .int .i64 n, .string t, .slice ia l.length ic], Bag.bag ([(LI.mk ⟨kd, n, t⟩ a1 c1 l).row]), Sv.ownV 72 4 (some ⟨w4.heap.size, 0, none⟩) 1 1 (cellsI [⟨⟨kd, n, t⟩, a1, c1, l⟩])] from Sv.push_own S7.out ((Below.refl _ _).alloc (Nat.le_refl _) _) (OwnV.madeAt w4 72 4 1 w4.heap.size #[.int .i64 kd, .int .i64 n, .string t, .slice a1 l.length c1] rfl (Nat.le_refl _) rfl (by decide)))
        clear S7
        go_wp2_with (at_builtin; refine L5.wpList_append_v S8.out 1 rfl rfl _ _ 42 (by rfl) i0 (.agg #[.int .i64 0, .int .i64 0, .string ⟨#[]⟩, .slice none 0 0]) 56 Try.underlying42 HI.out.1 HI.out.2.1 HI.out.2.2.1 HI.out.2.2.2 rfl (by omega) _ (by rfl) rfl _ _ 1 _ _ (cellsI [⟨⟨kd, n, t⟩, a1, c1, l⟩]) (by rfl) rfl (Sv.own_at S8.out 5 rfl).reads rfl (cellsI_one _) (by unfold maxLen; omega) (by omega) ?_; intro a3' c3' w5 hA)
        have S9 := Lib.hid (show Sl.Sep w _ [L4.boxR w.heap.size 44 #[.string name, .slice (some ad) N c, .int .i64 auto], Sv.ownV 72 4 a3' c3' (m + 1) (cellsI ys ++ (cellsI [⟨⟨kd, n, t⟩, a1, c1, l⟩])), Bag.bag (rowsI ys), L4.boxR g2 72 #[.int .i64 kd, .int .i64 n, .string t, .slice ia l.length ic], Bag.bag ([(LI.mk ⟨kd, n, t⟩ a1 c1 l).row]), Sv.ownV 72 4 (some ⟨w4.heap.size, 0, none⟩) 1 1 (cellsI [⟨⟨kd, n, t⟩, a1, c1, l⟩])] from hA)
        clear S8
        clear hA
        clear f0 f1 f2 f3 f4 f5 f6 f7 f8 f9 f10
        have S10 := Lib.hid (show Sl.Sep w _ [L4.boxR w.heap.size 44 #[.string name, .slice (some ad) N c, .int .i64 auto], Sv.ownV 72 4 a3' c3' (m + 1) (cellsI ys ++ (cellsI [⟨⟨kd, n, t⟩, a1, c1, l⟩])), Bag.bag (rowsI ys ++ ([(LI.mk ⟨kd, n, t⟩ a1 c1 l).row])), L4.boxR g2 72 #[.int .i64 kd, .int .i64 n, .string t, .slice ia l.length ic], Bag.bag ([]), Sv.ownV 72 4 (some ⟨w4.heap.size, 0, none⟩) 1 1 (cellsI [⟨⟨kd, n, t⟩, a1, c1, l⟩])] from Bag.bag_join S9.out 2 4 (by decide) rfl rfl)
        clear S9
        have S11 := Lib.hid (show Sl.Sep w _ [L4.boxR w.heap.size 44 #[.string name, .slice (some ad) N c, .int .i64 auto], Sv.ownV 72 4 a3' c3' (m + 1) (cellsI ys ++ (cellsI [⟨⟨kd, n, t⟩, a1, c1, l⟩])), Bag.bag (rowsI ys ++ ([(LI.mk ⟨kd, n, t⟩ a1 c1 l).row]))] from Bag.take S10.out [0, 1, 2] (by rfl) (by decide))
        clear S10
        go_roundw
        case rel =>
          refine ⟨k + 1, m + 1, a3', c3', ys ++ [⟨⟨kd, n, t⟩, a1, c1, l⟩], by omega, by go_num, rfl, by omega, And.intro ⟨?_, ?_⟩ ?_⟩
          · rw [List.length_append, ← HC.out.1]; rfl
          · rw [HT.out, HB.out, conI_snoc, HC.out.2]; rfl
          · rw [cellsI_append, rowsI_append]; exact S11.out
        case measure => simp [intOf]; omega
    · skip
      have hh := Bag.cs3 S4.out 0 rfl
      have f0 := hh.1; have f1 := hh.2.1; have f2 := hh.2.2; clear hh
      go_wp2_with fail
      go_ret
      obtain rfl : k = N := by omega
      obtain ⟨hm, hc⟩ := HC.out
      rw [List.take_of_length_le (show (conI xs).length ≤ k by have := HN.out; simp; omega)] at hc
      subst hm
      have S90 := Lib.hid (Bag.bag_of_one S4.out 1 (r := rowI A C ys) rfl)
      have S91 := Lib.hid (Bag.bag_join S90.out 1 2 (by decide) rfl rfl)
      exact ⟨A, C, ys, rfl, hc, Bag.bag_from S91.out 1 rfl, S91.out.old⟩
set_option maxHeartbeats 4000000 in
theorem numberIn_any (kd n : Int) (t : ByteArray) (ia : Option Addr) (ic : Nat) (l : List F) (f : ByteArray) (hl : l.length ≤ 1048576) (w : World) (hr : Reads w w.heap.size ia (cellsF l)) :
    Calls Try.prog 89 #[.agg #[.int .i64 kd, .int .i64 n, .string t, .slice ia l.length ic], .string f] w fun e w' => e = .returned (.int .i64 (getN l f.data.toList)) ∧ Below w.heap.size w w' := by
  have HGF := fun w' (h : Below w.heap.size w w') => L5.getField_any ia ic l f (by omega) w' ((hr.below h).more h.size)
  obtain ⟨fn, hfn⟩ : ∃ u, getN l f.data.toList = u := ⟨_, rfl⟩
  obtain ⟨fb, hfb⟩ : ∃ u, getB l f.data.toList = u := ⟨_, rfl⟩
  rw [hfn, hfb] at HGF
  replace HGF := Lib.hid HGF
  obtain ⟨N, hN⟩ : ∃ n, n = l.length := ⟨_, rfl⟩
  rw [← hN] at HGF ⊢
  clear hN hr
  rw [hfn]
  clear hfn hfb
  have S1 := Lib.hid (show Sl.Sep w (w.alloc (.cells #[.int .i64 kd, .int .i64 n, .string t, .slice ia N ic] 72)) [L4.boxR w.heap.size 72 #[.int .i64 kd, .int .i64 n, .string t, .slice ia N ic]] from L4.push_box (Sl.Sep.start w) 72 #[.int .i64 kd, .int .i64 n, .string t, .slice ia N ic] (w.heap.size) (by simp))
  obtain ⟨wa, hwa⟩ : ∃ u, u = (w.alloc (.cells #[.int .i64 kd, .int .i64 n, .string t, .slice ia N ic] 72)) := ⟨_, rfl⟩
  rw [← hwa] at S1
  go_enter Try.func89, Try.ntmps89
  go_upto_region 1 with fail
  rw [← hwa]
  clear hwa
  have hh := Bag.cs4 S1.out 0 rfl
  have f0 := hh.1; have f1 := hh.2.1; have f2 := hh.2.2.1; have f3 := hh.2.2.2; clear hh
  go_wp2_with fail
  go_at_call 104
  refine (HGF.out _ S1.out.old).mono ?_
  rintro e w1 ⟨rfl, hb⟩
  clear f0 f1 f2 f3
  have S2 := Lib.hid (S1.out.keep hb)
  clear S1
  clear hb
  have hh := Bag.cs4 S2.out 0 rfl
  have f0 := hh.1; have f1 := hh.2.1; have f2 := hh.2.2.1; have f3 := hh.2.2.2; clear hh
  go_wp2_with fail
  go_ret
  exact ⟨rfl, S2.out.old⟩
set_option maxHeartbeats 4000000 in
theorem indexOn1_any (kd n : Int) (t : ByteArray) (ia : Option Addr) (ic : Nat) (l : List F) (f : ByteArray) (hl : l.length ≤ 1048576) (g : Nat) (w : World) (hr : Reads w w.heap.size ia (cellsF l)) (hg : g < w.heap.size) (h0 : w.cell? ⟨g, 0, none⟩ = some (.string f)) :
    Calls Try.prog 103 #[.agg #[.int .i64 kd, .int .i64 n, .string t, .slice ia l.length ic], .pointer (some ⟨g, 0, none⟩)] w fun e w' => e = .returned (.bool (getB l f.data.toList)) ∧ Below w.heap.size w w' := by
  have HGF := fun w' (h : Below w.heap.size w w') => L5.getField_any ia ic l f (by omega) w' ((hr.below h).more h.size)
  obtain ⟨fn, hfn⟩ : ∃ u, getN l f.data.toList = u := ⟨_, rfl⟩
  obtain ⟨fb, hfb⟩ : ∃ u, getB l f.data.toList = u := ⟨_, rfl⟩
  rw [hfn, hfb] at HGF
  replace HGF := Lib.hid HGF
  obtain ⟨N, hN⟩ : ∃ n, n = l.length := ⟨_, rfl⟩
  rw [← hN] at HGF ⊢
  clear hN hr
  rw [hfb]
  clear hfn hfb
  have HK := Lib.hid (fun w' (h : Below w.heap.size w w') => (h.cell (p := ⟨g, 0, none⟩) hg).trans h0)
  clear h0
  have S1 := Lib.hid (show Sl.Sep w (w.alloc (.cells #[.int .i64 kd, .int .i64 n, .string t, .slice ia N ic] 72)) [L4.boxR w.heap.size 72 #[.int .i64 kd, .int .i64 n, .string t, .slice ia N ic]] from L4.push_box (Sl.Sep.start w) 72 #[.int .i64 kd, .int .i64 n, .string t, .slice ia N ic] (w.heap.size) (by simp))
  obtain ⟨wa, hwa⟩ : ∃ u, u = (w.alloc (.cells #[.int .i64 kd, .int .i64 n, .string t, .slice ia N ic] 72)) := ⟨_, rfl⟩
  rw [← hwa] at S1
  go_enter Try.func103, Try.ntmps103
  go_upto_region 1 with fail
  rw [← hwa]
  clear hwa
  have hh := Bag.cs4 S1.out 0 rfl
  have f0 := hh.1; have f1 := hh.2.1; have f2 := hh.2.2.1; have f3 := hh.2.2.2; clear hh
  have f4 : World.cell? _ ⟨g, 0, none⟩ = some (.string f) := (And.intro (HK.out _ S1.out.old) trivial).1
  go_wp2_with fail
  go_at_call 104
  refine (HGF.out _ S1.out.old).mono ?_
  rintro e w1 ⟨rfl, hb⟩
  clear f0 f1 f2 f3 f4
  have S2 := Lib.hid (S1.out.keep hb)
  clear S1
  clear hb
  have hh := Bag.cs4 S2.out 0 rfl
  have f0 := hh.1; have f1 := hh.2.1; have f2 := hh.2.2.1; have f3 := hh.2.2.2; clear hh
  have f4 : World.cell? _ ⟨g, 0, none⟩ = some (.string f) := (And.intro (HK.out _ S2.out.old) trivial).1
  go_wp2_with fail
  go_ret
  exact ⟨rfl, S2.out.old⟩
def cmp3 (x y : Int) : Int := if x < y then -1 else if y < x then 1 else 0
theorem cmpInt3_any (x y : Int) (w : World) :
    Calls Try.prog 85 #[.int .i64 x, .int .i64 y] w fun e w' => e = .returned (.int .i64 (cmp3 x y)) ∧ w = w' := by
  have H := Lib.hid L4.isNaN_any
  rcases (show x < y ∨ (¬ x < y ∧ x > y) ∨ (¬ x < y ∧ ¬ x > y) by omega) with h | ⟨h, h2⟩ | ⟨h, h2⟩
  all_goals
    go_enter Try.func85, Try.ntmps85
    go_wp2_with (go_at_call 99; refine (H.out _ _).mono ?_; rintro e w1 ⟨rfl, rfl⟩)
    go_ret
    exact ⟨by unfold cmp3; simp_all <;> omega, rfl⟩
set_option maxHeartbeats 2000000 in
theorem cmpOr_any (g : Nat) (u v : Int) (w : World) (h0 : w.cell? ⟨g, 0, none⟩ = some (.int .i64 u)) (h1 : w.cell? ⟨g, 1, none⟩ = some (.int .i64 v)) :
    Calls Try.prog 107 #[.slice (some ⟨g, 0, none⟩) 2 2] w fun e w' => e = .returned (.int .i64 (if u = 0 then v else u)) ∧ w = w' := by
  by_cases hu : u = 0
  · by_cases hv : v = 0
    · go_enter Try.func107, Try.ntmps107
      go_wp2
      refine wp_loop_rounds 3 ?_
      iterate 3 (rw [rounds_succ]; go_wp2)
      go_ret
      exact ⟨by simp [hu, hv], rfl⟩
    · go_enter Try.func107, Try.ntmps107
      go_wp2
      refine wp_loop_rounds 3 ?_
      iterate 2 (rw [rounds_succ]; go_wp2)
      go_ret
      exact ⟨by simp [hu], rfl⟩
  · go_enter Try.func107, Try.ntmps107
    go_wp2
    refine wp_loop_rounds 3 ?_
    iterate 1 (rw [rounds_succ]; go_wp2)
    go_ret
    exact ⟨by simp [hu], rfl⟩
set_option maxHeartbeats 8000000 in
theorem indexOn2_any (d1 n1 d2 n2 : Int) (t1 t2 : ByteArray) (a1 a2 : Option Addr) (c1 c2 : Nat) (l1 l2 : List F) (f : ByteArray) (g : Nat) (ht1 : t1.size ≤ 1099511627776) (ht2 : t2.size ≤ 1099511627776) (hl1 : l1.length ≤ 1048576) (hl2 : l2.length ≤ 1048576) (w : World) (hr1 : Reads w w.heap.size a1 (cellsF l1)) (hr2 : Reads w w.heap.size a2 (cellsF l2)) (hg : g < w.heap.size) (h0 : w.cell? ⟨g, 0, none⟩ = some (.string f)) :
    Calls Try.prog 106 #[.agg #[.int .i64 d1, .int .i64 n1, .string t1, .slice a1 l1.length c1], .agg #[.int .i64 d2, .int .i64 n2, .string t2, .slice a2 l2.length c2], .pointer (some ⟨g, 0, none⟩)] w fun e w' => e = .returned (.bool (less7 f.data.toList ⟨⟨d1, n1, t1⟩, l1⟩ ⟨⟨d2, n2, t2⟩, l2⟩)) ∧ Below w.heap.size w w' := by
  have HR1 := fun w' (h : Below w.heap.size w w') => numberIn_any d1 n1 t1 a1 c1 l1 f hl1 w' ((hr1.below h).more h.size)
  have HR2 := fun w' (h : Below w.heap.size w w') => numberIn_any d2 n2 t2 a2 c2 l2 f hl2 w' ((hr2.below h).more h.size)
  have HCK := fun w => L4.implCompareKeys_any ⟨d1, n1, t1⟩ ⟨d2, n2, t2⟩ (by show t1.size ≤ _; omega) (by show t2.size ≤ _; omega) w
  obtain ⟨na, hna⟩ : ∃ u, getN l1 f.data.toList = u := ⟨_, rfl⟩
  obtain ⟨nb, hnb⟩ : ∃ u, getN l2 f.data.toList = u := ⟨_, rfl⟩
  obtain ⟨m, hm⟩ : ∃ u, cmpK ⟨d1, n1, t1⟩ ⟨d2, n2, t2⟩ = u := ⟨_, rfl⟩
  obtain ⟨cv, hcv⟩ : ∃ u, cmp3 na nb = u := ⟨_, rfl⟩
  obtain ⟨z, hz⟩ : ∃ u, (if cv = 0 then m else cv) = u := ⟨_, rfl⟩
  have HE : less7 f.data.toList ⟨⟨d1, n1, t1⟩, l1⟩ ⟨⟨d2, n2, t2⟩, l2⟩ = decide (z < 0) := by
    unfold less7; dsimp only; rw [hna, hnb, hm, ← hz, ← hcv]; unfold cmp3
    by_cases h1 : na < nb
    · simp [h1]
    · by_cases h2 : nb < na
      · have h3 : ¬ na = nb := by omega
        simp [h1, h2, h3]
      · have h3 : na = nb := by omega
        simp [h3]
  rw [HE]
  rw [hna] at HR1
  rw [hnb] at HR2
  rw [hm] at HCK
  replace HR1 := Lib.hid HR1
  replace HR2 := Lib.hid HR2
  replace HCK := Lib.hid HCK
  dsimp only [L4.K.v] at HCK
  have HC3 := fun w => cmpInt3_any na nb w
  rw [hcv] at HC3
  replace HC3 := Lib.hid HC3
  have HOR := fun g w h0 h1 => cmpOr_any g cv m w h0 h1
  rw [hz] at HOR
  replace HOR := Lib.hid HOR
  have HK := Lib.hid (fun w' (h : Below w.heap.size w w') => (h.cell (p := ⟨g, 0, none⟩) hg).trans h0)
  obtain ⟨N1, hN1⟩ : ∃ n, n = l1.length := ⟨_, rfl⟩
  obtain ⟨N2, hN2⟩ : ∃ n, n = l2.length := ⟨_, rfl⟩
  rw [← hN1] at HR1 ⊢
  rw [← hN2] at HR2 ⊢
  clear h0 hna hnb hm hcv hz HE hr1 hr2 hN1 hN2
  have S1 := Lib.hid (show Sl.Sep w ((w.alloc (.cells #[.int .i64 d1, .int .i64 n1, .string t1, .slice a1 N1 c1] 72)).alloc (.cells #[.int .i64 d2, .int .i64 n2, .string t2, .slice a2 N2 c2] 72)) [L4.boxR w.heap.size 72 #[.int .i64 d1, .int .i64 n1, .string t1, .slice a1 N1 c1], L4.boxR (w.heap.size + 1) 72 #[.int .i64 d2, .int .i64 n2, .string t2, .slice a2 N2 c2]] from L4.push_box (L4.push_box (Sl.Sep.start w) 72 #[.int .i64 d1, .int .i64 n1, .string t1, .slice a1 N1 c1] (w.heap.size) (by simp)) 72 #[.int .i64 d2, .int .i64 n2, .string t2, .slice a2 N2 c2] (w.heap.size + 1) (by simp))
  obtain ⟨wa, hwa⟩ : ∃ u, u = ((w.alloc (.cells #[.int .i64 d1, .int .i64 n1, .string t1, .slice a1 N1 c1] 72)).alloc (.cells #[.int .i64 d2, .int .i64 n2, .string t2, .slice a2 N2 c2] 72)) := ⟨_, rfl⟩
  rw [← hwa] at S1
  go_enter Try.func106, Try.ntmps106
  go_upto_region 1 with fail
  rw [← hwa]
  clear hwa
  have hh := Bag.cs4 S1.out 0 rfl
  have f0 := hh.1; have f1 := hh.2.1; have f2 := hh.2.2.1; have f3 := hh.2.2.2; clear hh
  have hh := Bag.cs4 S1.out 1 rfl
  have f4 := hh.1; have f5 := hh.2.1; have f6 := hh.2.2.1; have f7 := hh.2.2.2; clear hh
  have f8 : World.cell? _ ⟨g, 0, none⟩ = some (.string f) := (And.intro (HK.out _ S1.out.old) trivial).1
  clear f0 f1 f2 f3 f4 f5 f6 f7 f8
  refine wp_region_held_drew (S := (fun w' => (World.cell? w' ⟨w.heap.size, 0, none⟩ = some (.int .i64 d1) ∧ World.cell? w' ⟨w.heap.size, 1, none⟩ = some (.int .i64 n1) ∧ World.cell? w' ⟨w.heap.size, 2, none⟩ = some (.string t1) ∧ World.cell? w' ⟨w.heap.size, 3, none⟩ = some (.slice a1 N1 c1)) ∧ (World.cell? w' ⟨w.heap.size + 1, 0, none⟩ = some (.int .i64 d2) ∧ World.cell? w' ⟨w.heap.size + 1, 1, none⟩ = some (.int .i64 n2) ∧ World.cell? w' ⟨w.heap.size + 1, 2, none⟩ = some (.string t2) ∧ World.cell? w' ⟨w.heap.size + 1, 3, none⟩ = some (.slice a2 N2 c2)) ∧ World.cell? w' ⟨g, 0, none⟩ = some (.string f))) (by kernel_rfl) ⟨Bag.cs4 (Bag.drew1 S1.out) 0 rfl, Bag.cs4 (Bag.drew1 S1.out) 1 rfl, (And.intro (HK.out _ (Bag.drew1 S1.out).old) trivial).1⟩ (fun hS => ?_)
  have S2 := Lib.hid (show Sl.Sep w _ [L4.boxR w.heap.size 72 #[.int .i64 d1, .int .i64 n1, .string t1, .slice a1 N1 c1], L4.boxR (w.heap.size + 1) 72 #[.int .i64 d2, .int .i64 n2, .string t2, .slice a2 N2 c2]] from Bag.drew1 S1.out)
  clear S1
  generalize World.drew _ = w1 at hS S2 ⊢
  refine tk 0 rfl ?_
  try simp only [zp0, zp1, zp2, zp3, zp4]
  refine tk 1 rfl ?_
  try simp only [zp0, zp1, zp2, zp3, zp4]
  refine tk 3 rfl ?_
  try simp only [zp0, zp1, zp2, zp3, zp4]
  refine tk 4 rfl ?_
  try simp only [zp0, zp1, zp2, zp3, zp4]
  refine tk 7 rfl ?_
  try simp only [zp0, zp1, zp2, zp3, zp4]
  refine tk 8 rfl ?_
  try simp only [zp0, zp1, zp2, zp3, zp4]
  refine tk 9 rfl ?_
  try simp only [zp0, zp1, zp2, zp3, zp4]
  refine tk 10 rfl ?_
  try simp only [zp0, zp1, zp2, zp3, zp4]
  refine Reg.one_op (i := 2) rfl (by kernel_rfl) (fun K hK => ?_)
  go_simp
  go_at_call 89
  refine (HR1.out _ S2.out.old).mono ?_
  rintro e w2 ⟨rfl, hb⟩
  have S3 := Lib.hid (S2.out.keep hb)
  clear S2
  clear hb
  go_wp2_with fail
  refine hK.out _ _ ⟨Bag.cs4 S3.out 0 rfl, Bag.cs4 S3.out 1 rfl, (And.intro (HK.out _ S3.out.old) trivial).1⟩ (fun hS => ?_)
  clear hK K
  try simp only [zp0, zp1, zp2, zp3, zp4]
  refine Reg.one_op (i := 5) rfl (by kernel_rfl) (fun K hK => ?_)
  go_simp
  go_at_call 89
  refine (HR2.out _ S3.out.old).mono ?_
  rintro e w3 ⟨rfl, hb⟩
  have S4 := Lib.hid (S3.out.keep hb)
  clear S3
  clear hb
  go_wp2_with fail
  refine hK.out _ _ ⟨Bag.cs4 S4.out 0 rfl, Bag.cs4 S4.out 1 rfl, (And.intro (HK.out _ S4.out.old) trivial).1⟩ (fun hS => ?_)
  clear hK K
  try simp only [zp0, zp1, zp2, zp3, zp4]
  refine Reg.one_op (i := 6) rfl (by kernel_rfl) (fun K hK => ?_)
  go_simp
  go_at_call 85
  refine (HC3.out _).mono ?_
  rintro e w4 ⟨rfl, rfl⟩
  go_wp2_with fail
  refine hK.out _ _ ⟨Bag.cs4 S4.out 0 rfl, Bag.cs4 S4.out 1 rfl, (And.intro (HK.out _ S4.out.old) trivial).1⟩ (fun hS => ?_)
  clear hK K
  try simp only [zp0, zp1, zp2, zp3, zp4]
  refine Reg.one_op (i := 11) rfl (by kernel_rfl) (fun K hK => ?_)
  go_simp
  go_at_call 70
  refine (HCK.out _).mono ?_
  rintro e w5 ⟨rfl, hb⟩
  have S5 := Lib.hid (S4.out.keep hb)
  clear S4
  clear hb
  go_wp2_with fail
  refine hK.out _ _ ⟨Bag.cs4 S5.out 0 rfl, Bag.cs4 S5.out 1 rfl, (And.intro (HK.out _ S5.out.old) trivial).1⟩ (fun hS => ?_)
  clear hK K
  try simp only [zp0, zp1, zp2, zp3, zp4]
  refine Reg.one_op (i := 12) rfl (by kernel_rfl) (fun K hK => ?_)
  go_simp
  have S6 := Lib.hid (show Sl.Sep w _ [L4.boxR w.heap.size 72 #[.int .i64 d1, .int .i64 n1, .string t1, .slice a1 N1 c1], L4.boxR (w.heap.size + 1) 72 #[.int .i64 d2, .int .i64 n2, .string t2, .slice a2 N2 c2], L4.boxR w5.heap.size 3 #[.int .i64 cv, .int .i64 m]] from L4.push_box S5.out 3 #[.int .i64 cv, .int .i64 m] w5.heap.size rfl)
  clear S5
  obtain ⟨g1, hg⟩ : ∃ g', g' = w5.heap.size := ⟨_, rfl⟩
  rw [← hg] at S6 ⊢
  clear hg
  generalize w5.alloc (.cells #[.int .i64 cv, .int .i64 m] 3) = w6 at S6 ⊢
  refine hK.out _ _ ⟨Bag.cs4 S6.out 0 rfl, Bag.cs4 S6.out 1 rfl, (And.intro (HK.out _ S6.out.old) trivial).1⟩ (fun hS => ?_)
  clear hK K
  try simp only [zp0, zp1, zp2, zp3, zp4]
  refine Reg.one_op (i := 13) rfl (by kernel_rfl) (fun K hK => ?_)
  go_simp
  go_at_call 107
  refine (HOR.out _ _ (Bag.cell_at S6.out 2 rfl 0 rfl) (Bag.cell_at S6.out 2 rfl 1 rfl)).mono ?_
  rintro e w7 ⟨rfl, rfl⟩
  go_wp2_with fail
  refine hK.out _ _ ⟨Bag.cs4 S6.out 0 rfl, Bag.cs4 S6.out 1 rfl, (And.intro (HK.out _ S6.out.old) trivial).1⟩ (fun hS => ?_)
  clear hK K
  try simp only [zp0, zp1, zp2, zp3, zp4]
  refine tk 14 rfl ?_
  try simp only [zp0, zp1, zp2, zp3, zp4]
  refine tk 15 rfl ?_
  try simp only [zp0, zp1, zp2, zp3, zp4]
  refine wpAnyH_done (by kernel_rfl) ?_ _
  have hh := Bag.cs4 S6.out 0 rfl
  have f0 := hh.1; have f1 := hh.2.1; have f2 := hh.2.2.1; have f3 := hh.2.2.2; clear hh
  have hh := Bag.cs4 S6.out 1 rfl
  have f4 := hh.1; have f5 := hh.2.1; have f6 := hh.2.2.1; have f7 := hh.2.2.2; clear hh
  have hh := Bag.cs2 S6.out 2 rfl
  have f8 := hh.1; have f9 := hh.2; clear hh
  have f10 : World.cell? _ ⟨g, 0, none⟩ = some (.string f) := (And.intro (HK.out _ S6.out.old) trivial).1
  go_wp2_with fail
  go_ret
  exact ⟨rfl, S6.out.old⟩
end Go.Proofs.Ytboefioalkjdaaa.L7

/-
  The contracts of the program's ItemsWith and CountWith. Conditions: keys' texts of at most 2^40 bytes, at most 2^20 fields and items. (Written by my program gen_l7g.py.)
-/
namespace Go.Proofs.Ytboefioalkjdaaa.L7
set_option maxRecDepth 100000
open L4 (K isK cmpK R inR encU)
open L5 (F isR isN cellsF encR eqR Small getO getN getB)
open L6
open Go.ChangeShapes Go.WideShapes Go.ChangeAt Go.RowKit Mem Sl Ex L2 Sv Bag
set_option linter.unusedVariables false
set_option linter.unusedSimpArgs false

theorem rowsI_mem' {xs : List LI} {x : LI} (h : x ∈ xs) : x.row ∈ rowsI xs := List.mem_map.2 ⟨x, h, rfl⟩
end Go.Proofs.Ytboefioalkjdaaa.L7

/-
  A region that draws its order, some loads of which a store ends: a step that writes behind that store. No condition.
-/
namespace Go.Proofs.Ytboefioalkjdaaa.Reg
set_option maxRecDepth 100000
section
variable {P : Program} {l : List Oper} {Q : Exit → Act → World → Prop} {md : Region.Mode} {S0 S1 : World → Prop} {q fuel i : Nat} {oi : Oper} {v : Value} {listed : Array Bool} {a : Act} {w : World}
theorem after_op (hi : nthO i l = some oi) (hr : Region.ready md l.toArray listed = [i]) (hl : listed.getD q true = true)
    (h : ∀ K' : Act → World → Prop, Shut (∀ a w, S0 w → (S0 w → anyL P md l.toArray Q S0 S1 q fuel (listed.setIfInBounds i true) a w) → K' a w) → if Region.wanted oi (yielded l.toArray a.tmps) = true then Oper.wp P oi a w K' Q else K' (a.put oi.dst undef) w) :
    anyL P md l.toArray Q S0 S1 q (fuel + 1) listed a w := by
  refine ⟨fun h0 => (by rw [hr] at h0; cases h0), fun j hj => ?_⟩
  rw [hr] at hj
  obtain rfl := List.mem_singleton.1 hj
  exact wpOp_step (by rw [nthO_eq]; exact hi) (fun K' hK => h K' (fun a w h0 hW => hK a w ⟨⟨h0, fun _ hn => absurd (hl.symm.trans hn) (by decide)⟩, hW h0⟩))
end
end Go.Proofs.Ytboefioalkjdaaa.Reg

