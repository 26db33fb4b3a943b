/-
  The contract of chapter 6's PutItem of the program. Conditions: keys' texts of at most 2^40 bytes, at most 2^20 fields and items. (Written by my program gen_l6k.py.)
-/
import Derived.Test.YtkfejjoehgipmaaTk
import Derived.Test.YtkfejjoehgipmaaL6Id
import Derived.Test.YtkfejjoehgipmaaL6Pm
namespace Go.Proofs.Ytkfejjoehgipmaa.L6
set_option maxRecDepth 100000
open L4 (K isK cmpK R inR encU)
open L5 (F isR isN cellsF encR eqR Small)
open Go.ChangeShapes Go.WideShapes Go.ChangeAt Go.RowKit Mem Sl Ex L2 Sv Bag
set_option linter.unusedVariables false
set_option linter.unusedSimpArgs false

theorem putI_some {s : S6} {k : K} {l : List F} {i : Nat} (h : isS s = true) (hf : fndO s.items k = some i) : putI s k l = if isS ⟨s.name, s.items.set i ⟨k, l⟩, s.auto⟩ then (⟨s.name, s.items.set i ⟨k, l⟩, s.auto⟩, true) else (s, false) := by
  obtain ⟨h1, h2, h3, h4, h5⟩ := isS_iff.1 h
  obtain ⟨hi, hk⟩ := fndO_some hf
  have e := isI_set h1 i hi l
  rw [hk] at e
  have hkk : isK k = true := by rw [← hk]; exact ((isI_iff.1 h1).1 i hi).1
  have e2 : isS ⟨s.name, s.items.set i ⟨k, l⟩, s.auto⟩ = isR l := by
    unfold isS
    dsimp only
    rw [e, h2, List.length_set, decide_eq_true h3, L1.inB_true.2 ⟨h4, h5⟩, Bool.and_true, Bool.and_true, Bool.and_true]
  rw [e2]
  unfold putI
  rw [h, hkk, hf]
  cases isR l <;> rfl
theorem putI_none {s : S6} {k : K} {l : List F} (h : isS s = true) (hf : fndO s.items k = none) : putI s k l = if isS ⟨s.name, s.items.take (plcI s.items k) ++ ⟨k, l⟩ :: s.items.drop (plcI s.items k), nextAuto s.auto k⟩ then (⟨s.name, s.items.take (plcI s.items k) ++ ⟨k, l⟩ :: s.items.drop (plcI s.items k), nextAuto s.auto k⟩, true) else (s, false) := by
  obtain ⟨h1, h2, h3, h4, h5⟩ := isS_iff.1 h
  have hp := plcI_le s.items k
  cases hg : isK k && isR l with
  | false =>
    have e : isS ⟨s.name, s.items.take (plcI s.items k) ++ ⟨k, l⟩ :: s.items.drop (plcI s.items k), nextAuto s.auto k⟩ = false := by
      unfold isS
      dsimp only
      rw [isI_bad (plcI s.items k) ⟨k, l⟩ (by rw [get_ins _ _ hp, if_neg (Nat.lt_irrefl _), if_pos rfl]) hg, Bool.false_and]
    rw [e]
    unfold putI
    rw [hg, Bool.and_false]
    rfl
  | true =>
    have hkk : isK k = true := by simp only [Bool.and_eq_true] at hg; exact hg.1
    have e : putI s k l = if 16 ≤ s.items.length then (s, false) else (⟨s.name, s.items.take (plcI s.items k) ++ ⟨k, l⟩ :: s.items.drop (plcI s.items k), nextAuto s.auto k⟩, true) := by
      rw [plcI_posI (fndO_cmp h1 hkk hf)]
      unfold putI
      rw [h, hg, hf]
      rfl
    by_cases hl : 16 ≤ s.items.length
    · have e2 : isS ⟨s.name, s.items.take (plcI s.items k) ++ ⟨k, l⟩ :: s.items.drop (plcI s.items k), nextAuto s.auto k⟩ = false := by
        unfold isS
        dsimp only
        rw [decide_eq_false (by simp; omega), Bool.false_and, Bool.and_false, Bool.and_false]
      rw [e, if_pos hl, e2]
      rfl
    · have hv := putI_valid k l h
      rw [e, if_neg hl] at hv
      rw [e, if_neg hl, hv]
      rfl

set_option maxHeartbeats 16000000 in
theorem putItem_any (y : LS) (k0 : K) (ra : Option Addr) (rc : Nat) (rl : List F) (hf : FitS y.con) (hkt : k0.text.size ≤ 1099511627776) (hrl : rl.length ≤ 1048576) (hrs : Small rl) (w : World) (hr : RowsRd w w.heap.size y.rows) (hrr : Reads w w.heap.size ra (cellsF rl)) :
    Calls Try.prog 16 #[y.v, k0.v, .agg #[.slice ra rl.length rc]] w (GaveSB w (putI y.con k0 rl).1 (putI y.con k0 rl).2) := by
  obtain ⟨i0, hi1, hi2, hi3, hi4⟩ := itemInfo
  have HI := Lib.hid (And.intro hi1 (And.intro hi2 (And.intro hi3 hi4)))
  clear hi1 hi2 hi3 hi4
  obtain ⟨pk, pn, pt⟩ := k0
  unfold L4.K.v
  try dsimp only at hkt ⊢
  have HFZ := Lib.hid (show FitI ⟨⟨pk, pn, pt⟩, rl⟩ from ⟨hkt, hrl, hrs⟩)
  have HFY := Lib.hid hf
  have HIS := Lib.hid (fun w' (h : Below w.heap.size w w') => isStore_any y hf w' ((hr.below h).more h.size))
  have HCP := Lib.hid (fun w' (h : Below w.heap.size w w') => copyStore_full y hf w' ((hr.below h).more h.size))
  have HFD := Lib.hid (fun w' (h : Below w.heap.size w w') => findItem_any y ⟨pk, pn, pt⟩ hf w' ((hr.below h).more h.size))
  have HPL := Lib.hid (fun w' (h : Below w.heap.size w w') => placeOf_any y ⟨pk, pn, pt⟩ hf hkt w' ((hr.below h).more h.size))
  have HRC := Lib.hid (fun w' (h : Below w.heap.size w w') => L5.copyRecord_any ra rc rl (by omega) w' ((hrr.below h).more h.size))
  obtain ⟨name, a, c, xs, auto⟩ := y
  have HR := Lib.hid (fun w' (h : Below w.heap.size w w') => LS.outer (hr.below h))
  have HX := Lib.hid (fun w' (h : Below w.heap.size w w') => (LS.inner (hr.below h)).more h.size)
  have HF := Lib.hid hf.items
  have HNM := Lib.hid hf.name
  have hl := hf.len
  simp only [LS.con, conI_length] at hl
  dsimp only [LS.con] at HR HX HF HNM
  try unfold LS.v LS.cells LS.con
  try dsimp only
  obtain ⟨N, hN⟩ : ∃ n, n = xs.length := ⟨_, rfl⟩
  rw [← hN] at hl ⊢
  have hl' : (N : Int) ≤ 1048576 := by omega
  have HN := Lib.hid hN
  clear hN hr hf
  dsimp only [LS.v, LS.cells, LS.con] at HIS HCP HFD HPL HFY
  rw [← HN.out] at HIS HCP HFD HPL
  obtain ⟨M, hM⟩ : ∃ M, M = rl.length := ⟨_, rfl⟩
  rw [← hM] at HRC ⊢
  have HM := Lib.hid hM
  clear hM hrr hrl hrs
  obtain ⟨bs, hbs⟩ : ∃ b, isS ⟨name, conI xs, auto⟩ = b := ⟨_, rfl⟩
  rw [hbs] at HIS
  obtain ⟨res, hres⟩ : ∃ r, putI ⟨name, conI xs, auto⟩ ⟨pk, pn, pt⟩ rl = r := ⟨_, rfl⟩
  rw [hres]
  have HBS := Lib.hid hbs
  have HP := Lib.hid hres
  clear hbs hres
  have S1 := Lib.hid (show Sl.Sep w ((((w.alloc (.cells #[.string name, .slice a N c, .int .i64 auto] 26)).alloc (.cells #[.int .i64 pk, .int .i64 pn, .string pt] 28)).alloc (.cells #[.slice ra M rc] 31)).alloc (.cells #[.string ⟨#[]⟩, .slice none 0 0, .int .i64 0] 26)) [L4.boxR w.heap.size 26 #[.string name, .slice a N c, .int .i64 auto], L4.boxR (w.heap.size + 1) 28 #[.int .i64 pk, .int .i64 pn, .string pt], L4.boxR (w.heap.size + 1 + 1) 31 #[.slice ra M rc], L4.boxR (w.heap.size + 1 + 1 + 1) 26 #[.string ⟨#[]⟩, .slice none 0 0, .int .i64 0]] from L4.push_box (L4.push_box (L4.push_box (L4.push_box (Sl.Sep.start w) 26 #[.string name, .slice a N c, .int .i64 auto] (w.heap.size) (by simp)) 28 #[.int .i64 pk, .int .i64 pn, .string pt] (w.heap.size + 1) (by simp)) 31 #[.slice ra M rc] (w.heap.size + 1 + 1) (by simp)) 26 #[.string ⟨#[]⟩, .slice none 0 0, .int .i64 0] (w.heap.size + 1 + 1 + 1) (by simp))
  obtain ⟨wa, hwa⟩ : ∃ u, u = ((((w.alloc (.cells #[.string name, .slice a N c, .int .i64 auto] 26)).alloc (.cells #[.int .i64 pk, .int .i64 pn, .string pt] 28)).alloc (.cells #[.slice ra M rc] 31)).alloc (.cells #[.string ⟨#[]⟩, .slice none 0 0, .int .i64 0] 26)) := ⟨_, rfl⟩
  rw [← hwa] at S1
  go_enter Try.func16, Try.ntmps16
  go_upto_region 1 with fail
  rw [← hwa]
  clear hwa
  have f0 : World.cell? _ ⟨w.heap.size, 0, none⟩ = some (.string name) := Bag.cell_at S1.out 0 rfl 0 rfl
  have f1 : World.cell? _ ⟨w.heap.size, 1, none⟩ = some (.slice a N c) := Bag.cell_at S1.out 0 rfl 1 rfl
  have f2 : World.cell? _ ⟨w.heap.size, 2, none⟩ = some (.int .i64 auto) := Bag.cell_at S1.out 0 rfl 2 rfl
  have f3 : World.cell? _ ⟨w.heap.size + 1, 0, none⟩ = some (.int .i64 pk) := Bag.cell_at S1.out 1 rfl 0 rfl
  have f4 : World.cell? _ ⟨w.heap.size + 1, 1, none⟩ = some (.int .i64 pn) := Bag.cell_at S1.out 1 rfl 1 rfl
  have f5 : World.cell? _ ⟨w.heap.size + 1, 2, none⟩ = some (.string pt) := Bag.cell_at S1.out 1 rfl 2 rfl
  have f6 : World.cell? _ ⟨w.heap.size + 1 + 1, 0, none⟩ = some (.slice ra M rc) := Bag.cell_at S1.out 2 rfl 0 rfl
  have f7 : World.cell? _ ⟨w.heap.size + 1 + 1 + 1, 0, none⟩ = some (.string ⟨#[]⟩) := Bag.cell_at S1.out 3 rfl 0 rfl
  have f8 : World.cell? _ ⟨w.heap.size + 1 + 1 + 1, 1, none⟩ = some (.slice none 0 0) := Bag.cell_at S1.out 3 rfl 1 rfl
  have f9 : World.cell? _ ⟨w.heap.size + 1 + 1 + 1, 2, none⟩ = some (.int .i64 0) := Bag.cell_at S1.out 3 rfl 2 rfl
  go_wp2_with fail
  go_at_call 22
  refine (HIS.out _ S1.out.old).mono ?_
  rintro e w1 ⟨rfl, hb⟩
  clear f0 f1 f2 f3 f4 f5 f6 f7 f8 f9
  have S2 := Lib.hid (show Sl.Sep w _ [L4.boxR w.heap.size 26 #[.string name, .slice a N c, .int .i64 auto], L4.boxR (w.heap.size + 1) 28 #[.int .i64 pk, .int .i64 pn, .string pt], L4.boxR (w.heap.size + 1 + 1) 31 #[.slice ra M rc], L4.boxR (w.heap.size + 1 + 1 + 1) 26 #[.string ⟨#[]⟩, .slice none 0 0, .int .i64 0]] from S1.out.keep hb)
  clear S1
  clear hb
  have f0 : World.cell? _ ⟨w.heap.size, 0, none⟩ = some (.string name) := Bag.cell_at S2.out 0 rfl 0 rfl
  have f1 : World.cell? _ ⟨w.heap.size, 1, none⟩ = some (.slice a N c) := Bag.cell_at S2.out 0 rfl 1 rfl
  have f2 : World.cell? _ ⟨w.heap.size, 2, none⟩ = some (.int .i64 auto) := Bag.cell_at S2.out 0 rfl 2 rfl
  have f3 : World.cell? _ ⟨w.heap.size + 1, 0, none⟩ = some (.int .i64 pk) := Bag.cell_at S2.out 1 rfl 0 rfl
  have f4 : World.cell? _ ⟨w.heap.size + 1, 1, none⟩ = some (.int .i64 pn) := Bag.cell_at S2.out 1 rfl 1 rfl
  have f5 : World.cell? _ ⟨w.heap.size + 1, 2, none⟩ = some (.string pt) := Bag.cell_at S2.out 1 rfl 2 rfl
  have f6 : World.cell? _ ⟨w.heap.size + 1 + 1, 0, none⟩ = some (.slice ra M rc) := Bag.cell_at S2.out 2 rfl 0 rfl
  have f7 : World.cell? _ ⟨w.heap.size + 1 + 1 + 1, 0, none⟩ = some (.string ⟨#[]⟩) := Bag.cell_at S2.out 3 rfl 0 rfl
  have f8 : World.cell? _ ⟨w.heap.size + 1 + 1 + 1, 1, none⟩ = some (.slice none 0 0) := Bag.cell_at S2.out 3 rfl 1 rfl
  have f9 : World.cell? _ ⟨w.heap.size + 1 + 1 + 1, 2, none⟩ = some (.int .i64 0) := Bag.cell_at S2.out 3 rfl 2 rfl
  cases bs with
  | false =>
    go_wp2_with fail
    go_at_call 59
    refine (HCP.out _ S2.out.old).mono ?_
    rintro e w2 ⟨g9, ys9, rfl, hcon, ho, hb⟩
    clear f0 f1 f2 f3 f4 f5 f6 f7 f8 f9
    have S3 := Lib.hid (show Sl.Sep w _ [L4.boxR w.heap.size 26 #[.string name, .slice a N c, .int .i64 auto], L4.boxR (w.heap.size + 1) 28 #[.int .i64 pk, .int .i64 pn, .string pt], L4.boxR (w.heap.size + 1 + 1) 31 #[.slice ra M rc], L4.boxR (w.heap.size + 1 + 1 + 1) 26 #[.string ⟨#[]⟩, .slice none 0 0, .int .i64 0], Bag.bag (rowI (some ⟨g9, 0, none⟩) ys9.length ys9 :: rowsI ys9)] from Bag.push_bag S2.out hb ho)
    clear S2
    clear hb ho
    have HCON9 := Lib.hid hcon
    clear hcon
    dsimp only at HCON9 ⊢
    have f0 : World.cell? _ ⟨w.heap.size + 1 + 1 + 1, 0, none⟩ = some (.string ⟨#[]⟩) := Bag.cell_at S3.out 3 rfl 0 rfl
    have f1 : World.cell? _ ⟨w.heap.size + 1 + 1 + 1, 1, none⟩ = some (.slice none 0 0) := Bag.cell_at S3.out 3 rfl 1 rfl
    have f2 : World.cell? _ ⟨w.heap.size + 1 + 1 + 1, 2, none⟩ = some (.int .i64 0) := Bag.cell_at S3.out 3 rfl 2 rfl
    have z0 := Bag.free_at S3.out 3 rfl 0
    have z1 := Bag.free_at S3.out 3 rfl 1
    have z2 := Bag.free_at S3.out 3 rfl 2
    go_wp2_with fail
    clear f0 f1 f2 z0 z1 z2
    have S4 := Lib.hid (show Sl.Sep w _ [L4.boxR w.heap.size 26 #[.string name, .slice a N c, .int .i64 auto], L4.boxR (w.heap.size + 1) 28 #[.int .i64 pk, .int .i64 pn, .string pt], L4.boxR (w.heap.size + 1 + 1) 31 #[.slice ra M rc], L4.boxR (w.heap.size + 1 + 1 + 1) 26 #[.string name, .slice (some ⟨g9, 0, none⟩) ys9.length ys9.length, .int .i64 auto], Bag.bag (rowI (some ⟨g9, 0, none⟩) ys9.length ys9 :: rowsI ys9)] from L5.put_box5 (L5.put_box5 (L5.put_box5 (S3.out) 3 rfl 0 (.string name)) 3 rfl 1 (.slice (some ⟨g9, 0, none⟩) ys9.length ys9.length)) 3 rfl 2 (.int .i64 auto))
    clear S3
    have f0 : World.cell? _ ⟨w.heap.size + 1 + 1 + 1, 0, none⟩ = some (.string name) := Bag.cell_at S4.out 3 rfl 0 rfl
    have f1 : World.cell? _ ⟨w.heap.size + 1 + 1 + 1, 1, none⟩ = some (.slice (some ⟨g9, 0, none⟩) ys9.length ys9.length) := Bag.cell_at S4.out 3 rfl 1 rfl
    have f2 : World.cell? _ ⟨w.heap.size + 1 + 1 + 1, 2, none⟩ = some (.int .i64 auto) := Bag.cell_at S4.out 3 rfl 2 rfl
    refine bodyPost_ret (v := .tuple #[.agg #[.string name, .slice (some ⟨g9, 0, none⟩) ys9.length ys9.length, .int .i64 auto], .bool false]) (by simp [results, Try.results16, go_sem, *]) rfl ?_
    have HE := Lib.hid (show res = (⟨name, conI xs, auto⟩, false) from by rw [← HP.out]; unfold putI; rw [HBS.out]; rfl)
    exact ⟨⟨name, some ⟨g9, 0, none⟩, ys9.length, ys9, auto⟩, by rw [HE.out]; rfl, by rw [HE.out]; unfold LS.con; dsimp only; rw [HCON9.out], Bag.bag_from S4.out 4 rfl, S4.out.old⟩
  | true =>
    go_wp2_with fail
    go_at_call 59
    refine (HCP.out _ S2.out.old).mono ?_
    rintro e w2 ⟨g3, ys3, rfl, hcon, ho, hb⟩
    clear f0 f1 f2 f3 f4 f5 f6 f7 f8 f9
    have S3 := Lib.hid (show Sl.Sep w _ [L4.boxR w.heap.size 26 #[.string name, .slice a N c, .int .i64 auto], L4.boxR (w.heap.size + 1) 28 #[.int .i64 pk, .int .i64 pn, .string pt], L4.boxR (w.heap.size + 1 + 1) 31 #[.slice ra M rc], L4.boxR (w.heap.size + 1 + 1 + 1) 26 #[.string ⟨#[]⟩, .slice none 0 0, .int .i64 0], Bag.bag (rowI (some ⟨g3, 0, none⟩) ys3.length ys3 :: rowsI ys3)] from Bag.push_bag S2.out hb ho)
    clear S2
    clear hb ho
    have HCON3 := Lib.hid hcon
    clear hcon
    dsimp only at HCON3 ⊢
    have hyl : ys3.length = N := by have h := congrArg List.length HCON3.out; simp only [conI_length] at h; rw [h]; exact HN.out.symm
    have HV16 := Lib.hid (show N ≤ 16 ∧ 0 ≤ auto ∧ auto ≤ 1000000 from by have h := (isS_iff.1 HBS.out).2.2; dsimp only at h; rw [conI_length, ← HN.out] at h; exact h)
    have f0 : World.cell? _ ⟨w.heap.size, 0, none⟩ = some (.string name) := Bag.cell_at S3.out 0 rfl 0 rfl
    have f1 : World.cell? _ ⟨w.heap.size, 1, none⟩ = some (.slice a N c) := Bag.cell_at S3.out 0 rfl 1 rfl
    have f2 : World.cell? _ ⟨w.heap.size, 2, none⟩ = some (.int .i64 auto) := Bag.cell_at S3.out 0 rfl 2 rfl
    have f3 : World.cell? _ ⟨w.heap.size + 1, 0, none⟩ = some (.int .i64 pk) := Bag.cell_at S3.out 1 rfl 0 rfl
    have f4 : World.cell? _ ⟨w.heap.size + 1, 1, none⟩ = some (.int .i64 pn) := Bag.cell_at S3.out 1 rfl 1 rfl
    have f5 : World.cell? _ ⟨w.heap.size + 1, 2, none⟩ = some (.string pt) := Bag.cell_at S3.out 1 rfl 2 rfl
    have f6 : World.cell? _ ⟨w.heap.size + 1 + 1, 0, none⟩ = some (.slice ra M rc) := Bag.cell_at S3.out 2 rfl 0 rfl
    have f7 : World.cell? _ ⟨w.heap.size + 1 + 1 + 1, 0, none⟩ = some (.string ⟨#[]⟩) := Bag.cell_at S3.out 3 rfl 0 rfl
    have f8 : World.cell? _ ⟨w.heap.size + 1 + 1 + 1, 1, none⟩ = some (.slice none 0 0) := Bag.cell_at S3.out 3 rfl 1 rfl
    have f9 : World.cell? _ ⟨w.heap.size + 1 + 1 + 1, 2, none⟩ = some (.int .i64 0) := Bag.cell_at S3.out 3 rfl 2 rfl
    rw [hyl]
    go_upto_region 4 with fail
    clear f0 f1 f2 f3 f4 f5 f6 f7 f8 f9
    have S4 := Lib.hid (show Sl.Sep w _ [L4.boxR w.heap.size 26 #[.string name, .slice a N c, .int .i64 auto], L4.boxR (w.heap.size + 1) 28 #[.int .i64 pk, .int .i64 pn, .string pt], L4.boxR (w.heap.size + 1 + 1) 31 #[.slice ra M rc], L4.boxR (w.heap.size + 1 + 1 + 1) 26 #[.string ⟨#[]⟩, .slice none 0 0, .int .i64 0], Bag.bag (rowI (some ⟨g3, 0, none⟩) ys3.length ys3 :: rowsI ys3), L4.boxR w2.heap.size 26 #[.string name, .slice (some ⟨g3, 0, none⟩) N N, .int .i64 auto]] from L4.push_box S3.out 26 #[.string name, .slice (some ⟨g3, 0, none⟩) N N, .int .i64 auto] w2.heap.size rfl)
    clear S3
    obtain ⟨g1, hg⟩ : ∃ g', g' = w2.heap.size := ⟨_, rfl⟩
    rw [← hg] at S4 ⊢
    clear hg
    generalize w2.alloc (.cells #[.string name, .slice (some ⟨g3, 0, none⟩) N N, .int .i64 auto] 26) = w3 at S4 ⊢
    have S5 := Lib.hid (show Sl.Sep w _ [L4.boxR w.heap.size 26 #[.string name, .slice a N c, .int .i64 auto], L4.boxR (w.heap.size + 1) 28 #[.int .i64 pk, .int .i64 pn, .string pt], L4.boxR (w.heap.size + 1 + 1) 31 #[.slice ra M rc], L4.boxR (w.heap.size + 1 + 1 + 1) 26 #[.string ⟨#[]⟩, .slice none 0 0, .int .i64 0], Bag.bag ([rowI (some ⟨g3, 0, none⟩) ys3.length ys3] ++ rowsI ys3), L4.boxR g1 26 #[.string name, .slice (some ⟨g3, 0, none⟩) N N, .int .i64 auto]] from S4.out)
    clear S4
    have S6 := Lib.hid (show Sl.Sep w _ [L4.boxR w.heap.size 26 #[.string name, .slice a N c, .int .i64 auto], L4.boxR (w.heap.size + 1) 28 #[.int .i64 pk, .int .i64 pn, .string pt], L4.boxR (w.heap.size + 1 + 1) 31 #[.slice ra M rc], L4.boxR (w.heap.size + 1 + 1 + 1) 26 #[.string ⟨#[]⟩, .slice none 0 0, .int .i64 0], Bag.bag ([rowI (some ⟨g3, 0, none⟩) ys3.length ys3]), L4.boxR g1 26 #[.string name, .slice (some ⟨g3, 0, none⟩) N N, .int .i64 auto], Bag.bag (rowsI ys3)] from Bag.bag_split S5.out 4 rfl)
    clear S5
    have S7 := Lib.hid (show Sl.Sep w _ [L4.boxR w.heap.size 26 #[.string name, .slice a N c, .int .i64 auto], L4.boxR (w.heap.size + 1) 28 #[.int .i64 pk, .int .i64 pn, .string pt], L4.boxR (w.heap.size + 1 + 1) 31 #[.slice ra M rc], L4.boxR (w.heap.size + 1 + 1 + 1) 26 #[.string ⟨#[]⟩, .slice none 0 0, .int .i64 0], Sv.ownV 40 4 (some ⟨g3, 0, none⟩) N N (cellsI ys3), L4.boxR g1 26 #[.string name, .slice (some ⟨g3, 0, none⟩) N N, .int .i64 auto], Bag.bag (rowsI ys3)] from (by have h := Bag.one_of_bag S6.out 4 (r := rowI (some ⟨g3, 0, none⟩) ys3.length ys3) rfl; unfold RowS.res rowI at h; dsimp only at h; rw [hyl] at h; exact h))
    clear S6
    have f0 : World.cell? _ ⟨w.heap.size, 0, none⟩ = some (.string name) := Bag.cell_at S7.out 0 rfl 0 rfl
    have f1 : World.cell? _ ⟨w.heap.size, 1, none⟩ = some (.slice a N c) := Bag.cell_at S7.out 0 rfl 1 rfl
    have f2 : World.cell? _ ⟨w.heap.size, 2, none⟩ = some (.int .i64 auto) := Bag.cell_at S7.out 0 rfl 2 rfl
    have f3 : World.cell? _ ⟨w.heap.size + 1, 0, none⟩ = some (.int .i64 pk) := Bag.cell_at S7.out 1 rfl 0 rfl
    have f4 : World.cell? _ ⟨w.heap.size + 1, 1, none⟩ = some (.int .i64 pn) := Bag.cell_at S7.out 1 rfl 1 rfl
    have f5 : World.cell? _ ⟨w.heap.size + 1, 2, none⟩ = some (.string pt) := Bag.cell_at S7.out 1 rfl 2 rfl
    have f6 : World.cell? _ ⟨w.heap.size + 1 + 1, 0, none⟩ = some (.slice ra M rc) := Bag.cell_at S7.out 2 rfl 0 rfl
    have f7 : World.cell? _ ⟨w.heap.size + 1 + 1 + 1, 0, none⟩ = some (.string ⟨#[]⟩) := Bag.cell_at S7.out 3 rfl 0 rfl
    have f8 : World.cell? _ ⟨w.heap.size + 1 + 1 + 1, 1, none⟩ = some (.slice none 0 0) := Bag.cell_at S7.out 3 rfl 1 rfl
    have f9 : World.cell? _ ⟨w.heap.size + 1 + 1 + 1, 2, none⟩ = some (.int .i64 0) := Bag.cell_at S7.out 3 rfl 2 rfl
    have f10 : World.cell? _ ⟨g1, 0, none⟩ = some (.string name) := Bag.cell_at S7.out 5 rfl 0 rfl
    have f11 : World.cell? _ ⟨g1, 1, none⟩ = some (.slice (some ⟨g3, 0, none⟩) N N) := Bag.cell_at S7.out 5 rfl 1 rfl
    have f12 : World.cell? _ ⟨g1, 2, none⟩ = some (.int .i64 auto) := Bag.cell_at S7.out 5 rfl 2 rfl
    obtain ⟨fi, hfi⟩ : ∃ i, fndI (conI xs) ⟨pk, pn, pt⟩ = i := ⟨_, rfl⟩
    rw [hfi] at HFD
    have HFI := Lib.hid hfi
    clear hfi
    go_wp2_with fail
    go_at_call 19
    refine (HFD.out _ S7.out.old).mono ?_
    rintro e w4 ⟨rfl, hb⟩
    clear f0 f1 f2 f3 f4 f5 f6 f7 f8 f9 f10 f11 f12
    have S8 := Lib.hid (show Sl.Sep w _ [L4.boxR w.heap.size 26 #[.string name, .slice a N c, .int .i64 auto], L4.boxR (w.heap.size + 1) 28 #[.int .i64 pk, .int .i64 pn, .string pt], L4.boxR (w.heap.size + 1 + 1) 31 #[.slice ra M rc], L4.boxR (w.heap.size + 1 + 1 + 1) 26 #[.string ⟨#[]⟩, .slice none 0 0, .int .i64 0], Sv.ownV 40 4 (some ⟨g3, 0, none⟩) N N (cellsI ys3), L4.boxR g1 26 #[.string name, .slice (some ⟨g3, 0, none⟩) N N, .int .i64 auto], Bag.bag (rowsI ys3)] from S7.out.keep hb)
    clear S7
    clear hb
    have f0 : World.cell? _ ⟨w.heap.size, 0, none⟩ = some (.string name) := Bag.cell_at S8.out 0 rfl 0 rfl
    have f1 : World.cell? _ ⟨w.heap.size, 1, none⟩ = some (.slice a N c) := Bag.cell_at S8.out 0 rfl 1 rfl
    have f2 : World.cell? _ ⟨w.heap.size, 2, none⟩ = some (.int .i64 auto) := Bag.cell_at S8.out 0 rfl 2 rfl
    have f3 : World.cell? _ ⟨w.heap.size + 1, 0, none⟩ = some (.int .i64 pk) := Bag.cell_at S8.out 1 rfl 0 rfl
    have f4 : World.cell? _ ⟨w.heap.size + 1, 1, none⟩ = some (.int .i64 pn) := Bag.cell_at S8.out 1 rfl 1 rfl
    have f5 : World.cell? _ ⟨w.heap.size + 1, 2, none⟩ = some (.string pt) := Bag.cell_at S8.out 1 rfl 2 rfl
    have f6 : World.cell? _ ⟨w.heap.size + 1 + 1, 0, none⟩ = some (.slice ra M rc) := Bag.cell_at S8.out 2 rfl 0 rfl
    have f7 : World.cell? _ ⟨w.heap.size + 1 + 1 + 1, 0, none⟩ = some (.string ⟨#[]⟩) := Bag.cell_at S8.out 3 rfl 0 rfl
    have f8 : World.cell? _ ⟨w.heap.size + 1 + 1 + 1, 1, none⟩ = some (.slice none 0 0) := Bag.cell_at S8.out 3 rfl 1 rfl
    have f9 : World.cell? _ ⟨w.heap.size + 1 + 1 + 1, 2, none⟩ = some (.int .i64 0) := Bag.cell_at S8.out 3 rfl 2 rfl
    have f10 : World.cell? _ ⟨g1, 0, none⟩ = some (.string name) := Bag.cell_at S8.out 5 rfl 0 rfl
    have f11 : World.cell? _ ⟨g1, 1, none⟩ = some (.slice (some ⟨g3, 0, none⟩) N N) := Bag.cell_at S8.out 5 rfl 1 rfl
    have f12 : World.cell? _ ⟨g1, 2, none⟩ = some (.int .i64 auto) := Bag.cell_at S8.out 5 rfl 2 rfl
    cases hfo : fndO (conI xs) ⟨pk, pn, pt⟩ with
    | some i =>
      have hfi2 : fi = (i : Int) := by have h := HFI.out; unfold fndI at h; rw [hfo] at h; exact h.symm
      obtain ⟨hi, hki⟩ := fndO_some hfo
      subst hfi2
      have hiN : i < N := by rw [conI_length] at hi; have := HN.out; omega
      have hiy : i < ys3.length := by omega
      have HE := Lib.hid (putI_some (l := rl) HBS.out hfo)
      dsimp only at HE
      have HKI := Lib.hid (show ys3[i].k = ⟨pk, pn, pt⟩ from by have h1 := con_of (List.getElem?_eq_getElem hiy); rw [HCON3.out, List.getElem?_eq_getElem hi] at h1; have h2 := Option.some.inj h1; rw [h2] at hki; exact hki)
      clear hfo hki hi
      have hii : ((i : Nat) : Int) < (N : Int) := by omega
      clear f0 f1 f2 f3 f4 f5 f6 f7 f8 f9 f10 f11 f12
      have f0 : World.cell? _ ⟨w.heap.size, 0, none⟩ = some (.string name) := Bag.cell_at S8.out 0 rfl 0 rfl
      have f1 : World.cell? _ ⟨w.heap.size, 1, none⟩ = some (.slice a N c) := Bag.cell_at S8.out 0 rfl 1 rfl
      have f2 : World.cell? _ ⟨w.heap.size, 2, none⟩ = some (.int .i64 auto) := Bag.cell_at S8.out 0 rfl 2 rfl
      have f3 : World.cell? _ ⟨w.heap.size + 1, 0, none⟩ = some (.int .i64 pk) := Bag.cell_at S8.out 1 rfl 0 rfl
      have f4 : World.cell? _ ⟨w.heap.size + 1, 1, none⟩ = some (.int .i64 pn) := Bag.cell_at S8.out 1 rfl 1 rfl
      have f5 : World.cell? _ ⟨w.heap.size + 1, 2, none⟩ = some (.string pt) := Bag.cell_at S8.out 1 rfl 2 rfl
      have f6 : World.cell? _ ⟨w.heap.size + 1 + 1, 0, none⟩ = some (.slice ra M rc) := Bag.cell_at S8.out 2 rfl 0 rfl
      have f7 : World.cell? _ ⟨w.heap.size + 1 + 1 + 1, 0, none⟩ = some (.string ⟨#[]⟩) := Bag.cell_at S8.out 3 rfl 0 rfl
      have f8 : World.cell? _ ⟨w.heap.size + 1 + 1 + 1, 1, none⟩ = some (.slice none 0 0) := Bag.cell_at S8.out 3 rfl 1 rfl
      have f9 : World.cell? _ ⟨w.heap.size + 1 + 1 + 1, 2, none⟩ = some (.int .i64 0) := Bag.cell_at S8.out 3 rfl 2 rfl
      have f10 : World.cell? _ ⟨g1, 0, none⟩ = some (.string name) := Bag.cell_at S8.out 5 rfl 0 rfl
      have f11 : World.cell? _ ⟨g1, 1, none⟩ = some (.slice (some ⟨g3, 0, none⟩) N N) := Bag.cell_at S8.out 5 rfl 1 rfl
      have f12 : World.cell? _ ⟨g1, 2, none⟩ = some (.int .i64 auto) := Bag.cell_at S8.out 5 rfl 2 rfl
      go_upto_region 6 with fail
      clear f0 f1 f2 f3 f4 f5 f6 f7 f8 f9 f10 f11 f12
      refine wp_region_held_drew (S := (fun w' => World.cell? w' ⟨w.heap.size + 1 + 1, 0, none⟩ = some (.slice ra M rc) ∧ World.cell? w' ⟨g1, 0, none⟩ = some (.string name) ∧ World.cell? w' ⟨g1, 1, none⟩ = some (.slice (some ⟨g3, 0, none⟩) N N) ∧ World.cell? w' ⟨g1, 2, none⟩ = some (.int .i64 auto))) (by kernel_rfl) ⟨Bag.cell_at S8.out 2 rfl 0 rfl, Bag.cell_at S8.out 5 rfl 0 rfl, Bag.cell_at S8.out 5 rfl 1 rfl, Bag.cell_at S8.out 5 rfl 2 rfl⟩ (fun hS => ?_)
      have S9 := Lib.hid (show Sl.Sep w _ [L4.boxR w.heap.size 26 #[.string name, .slice a N c, .int .i64 auto], L4.boxR (w.heap.size + 1) 28 #[.int .i64 pk, .int .i64 pn, .string pt], L4.boxR (w.heap.size + 1 + 1) 31 #[.slice ra M rc], L4.boxR (w.heap.size + 1 + 1 + 1) 26 #[.string ⟨#[]⟩, .slice none 0 0, .int .i64 0], Sv.ownV 40 4 (some ⟨g3, 0, none⟩) N N (cellsI ys3), L4.boxR g1 26 #[.string name, .slice (some ⟨g3, 0, none⟩) N N, .int .i64 auto], Bag.bag (rowsI ys3)] from Bag.drew1 S8.out)
      clear S8
      generalize World.drew _ = w5 at hS S9 ⊢
      refine tk 0 rfl ?_
      try simp only [zp0, zp1, zp2, zp3, zp4]
      refine tk 1 rfl ?_
      try simp only [zp0, zp1, zp2, zp3, zp4]
      refine tk 2 rfl ?_
      try simp only [zp0, zp1, zp2, zp3, zp4]
      refine tk 3 rfl ?_
      try simp only [zp0, zp1, zp2, zp3, zp4]
      refine Reg.one_op (i := 4) rfl (by kernel_rfl) (fun K hK => ?_)
      go_simp
      go_at_call 60
      refine (HRC.out _ S9.out.old).mono ?_
      rintro e w6 ⟨a1, c1, rfl, ho, hb⟩
      have S10 := Lib.hid (show Sl.Sep w _ [L4.boxR w.heap.size 26 #[.string name, .slice a N c, .int .i64 auto], L4.boxR (w.heap.size + 1) 28 #[.int .i64 pk, .int .i64 pn, .string pt], L4.boxR (w.heap.size + 1 + 1) 31 #[.slice ra M rc], L4.boxR (w.heap.size + 1 + 1 + 1) 26 #[.string ⟨#[]⟩, .slice none 0 0, .int .i64 0], Sv.ownV 40 4 (some ⟨g3, 0, none⟩) N N (cellsI ys3), L4.boxR g1 26 #[.string name, .slice (some ⟨g3, 0, none⟩) N N, .int .i64 auto], Bag.bag (rowsI ys3), Sv.ownV 102 2 a1 c1 M (cellsF rl)] from Sv.push_own S9.out hb ho)
      clear S9
      clear hb ho
      go_wp2_with fail
      refine hK.out _ _ ⟨Bag.cell_at S10.out 2 rfl 0 rfl, Bag.cell_at S10.out 5 rfl 0 rfl, Bag.cell_at S10.out 5 rfl 1 rfl, Bag.cell_at S10.out 5 rfl 2 rfl⟩ (fun hS => ?_)
      clear hK K
      try simp only [zp0, zp1, zp2, zp3, zp4]
      refine tk 5 rfl ?_
      try simp only [zp0, zp1, zp2, zp3, zp4]
      refine tk 6 rfl ?_
      try simp only [zp0, zp1, zp2, zp3, zp4]
      refine Reg.one_op (i := 7) rfl (by kernel_rfl) (fun K hK => ?_)
      have q0 := (Sv.own_at S10.out 4 rfl).cell (i * 4 + 3) (by rw [cellsI_length]; omega)
      have q1 := (Sv.own_at S10.out 4 rfl).free (i * 4 + 3)
      go_simp
      clear q0 q1
      have S11 := Lib.hid (show Sl.Sep w (w6.setCell ⟨g3, i * 4 + 3, none⟩ (.slice a1 M c1)) [L4.boxR w.heap.size 26 #[.string name, .slice a N c, .int .i64 auto], L4.boxR (w.heap.size + 1) 28 #[.int .i64 pk, .int .i64 pn, .string pt], L4.boxR (w.heap.size + 1 + 1) 31 #[.slice ra M rc], L4.boxR (w.heap.size + 1 + 1 + 1) 26 #[.string ⟨#[]⟩, .slice none 0 0, .int .i64 0], Sv.ownV 40 4 (some ⟨g3, 0, none⟩) N N (cellsI (ys3.set i ⟨ys3[i].k, a1, c1, rl⟩)), L4.boxR g1 26 #[.string name, .slice (some ⟨g3, 0, none⟩) N N, .int .i64 auto], Bag.bag (rowsI ys3), Sv.ownV 102 2 a1 c1 M (cellsF rl)] from (by have h := Sv.set_own S10.out 4 rfl (i * 4 + 3) (by rw [cellsI_length]; omega) (.slice a1 M c1); rw [cellsI_set3m ys3 i hiy a1 c1 rl M HM.out] at h; exact h))
      clear S10
      refine hK.out _ _ ⟨Bag.cell_at S11.out 2 rfl 0 rfl, Bag.cell_at S11.out 5 rfl 0 rfl, Bag.cell_at S11.out 5 rfl 1 rfl, Bag.cell_at S11.out 5 rfl 2 rfl⟩ (fun hS => ?_)
      clear hK K
      try simp only [zp0, zp1, zp2, zp3, zp4]
      refine wpAnyH_done (by kernel_rfl) ?_ _
      have f0 : World.cell? _ ⟨w.heap.size, 0, none⟩ = some (.string name) := Bag.cell_at S11.out 0 rfl 0 rfl
      have f1 : World.cell? _ ⟨w.heap.size, 1, none⟩ = some (.slice a N c) := Bag.cell_at S11.out 0 rfl 1 rfl
      have f2 : World.cell? _ ⟨w.heap.size, 2, none⟩ = some (.int .i64 auto) := Bag.cell_at S11.out 0 rfl 2 rfl
      have f3 : World.cell? _ ⟨w.heap.size + 1, 0, none⟩ = some (.int .i64 pk) := Bag.cell_at S11.out 1 rfl 0 rfl
      have f4 : World.cell? _ ⟨w.heap.size + 1, 1, none⟩ = some (.int .i64 pn) := Bag.cell_at S11.out 1 rfl 1 rfl
      have f5 : World.cell? _ ⟨w.heap.size + 1, 2, none⟩ = some (.string pt) := Bag.cell_at S11.out 1 rfl 2 rfl
      have f6 : World.cell? _ ⟨w.heap.size + 1 + 1, 0, none⟩ = some (.slice ra M rc) := Bag.cell_at S11.out 2 rfl 0 rfl
      have f7 : World.cell? _ ⟨w.heap.size + 1 + 1 + 1, 0, none⟩ = some (.string ⟨#[]⟩) := Bag.cell_at S11.out 3 rfl 0 rfl
      have f8 : World.cell? _ ⟨w.heap.size + 1 + 1 + 1, 1, none⟩ = some (.slice none 0 0) := Bag.cell_at S11.out 3 rfl 1 rfl
      have f9 : World.cell? _ ⟨w.heap.size + 1 + 1 + 1, 2, none⟩ = some (.int .i64 0) := Bag.cell_at S11.out 3 rfl 2 rfl
      have f10 : World.cell? _ ⟨g1, 0, none⟩ = some (.string name) := Bag.cell_at S11.out 5 rfl 0 rfl
      have f11 : World.cell? _ ⟨g1, 1, none⟩ = some (.slice (some ⟨g3, 0, none⟩) N N) := Bag.cell_at S11.out 5 rfl 1 rfl
      have f12 : World.cell? _ ⟨g1, 2, none⟩ = some (.int .i64 auto) := Bag.cell_at S11.out 5 rfl 2 rfl
      clear f0 f1 f2 f3 f4 f5 f6 f7 f8 f9 f10 f11 f12
      have S12 := Lib.hid (show Sl.Sep w _ [L4.boxR w.heap.size 26 #[.string name, .slice a N c, .int .i64 auto], L4.boxR (w.heap.size + 1) 28 #[.int .i64 pk, .int .i64 pn, .string pt], L4.boxR (w.heap.size + 1 + 1) 31 #[.slice ra M rc], L4.boxR (w.heap.size + 1 + 1 + 1) 26 #[.string ⟨#[]⟩, .slice none 0 0, .int .i64 0], Sv.ownV 40 4 (some ⟨g3, 0, none⟩) N N (cellsI (ys3.set i ⟨ys3[i].k, a1, c1, rl⟩)), L4.boxR g1 26 #[.string name, .slice (some ⟨g3, 0, none⟩) N N, .int .i64 auto], Bag.bag (rowsI ys3), Bag.bag ([(LI.mk ys3[i].k a1 c1 rl).row])] from Bag.bag_of_one S11.out 7 (r := (LI.mk ys3[i].k a1 c1 rl).row) (by show some _ = some _; rw [HM.out]; rfl))
      clear S11
      have S13 := Lib.hid (show Sl.Sep w _ [L4.boxR w.heap.size 26 #[.string name, .slice a N c, .int .i64 auto], L4.boxR (w.heap.size + 1) 28 #[.int .i64 pk, .int .i64 pn, .string pt], L4.boxR (w.heap.size + 1 + 1) 31 #[.slice ra M rc], L4.boxR (w.heap.size + 1 + 1 + 1) 26 #[.string ⟨#[]⟩, .slice none 0 0, .int .i64 0], Sv.ownV 40 4 (some ⟨g3, 0, none⟩) N N (cellsI (ys3.set i ⟨ys3[i].k, a1, c1, rl⟩)), L4.boxR g1 26 #[.string name, .slice (some ⟨g3, 0, none⟩) N N, .int .i64 auto], Bag.bag (rowsI ys3 ++ ([(LI.mk ys3[i].k a1 c1 rl).row])), Bag.bag ([])] from Bag.bag_join S12.out 6 7 (by decide) rfl rfl)
      clear S12
      have S14 := Lib.hid (show Sl.Sep w _ [L4.boxR w.heap.size 26 #[.string name, .slice a N c, .int .i64 auto], L4.boxR (w.heap.size + 1) 28 #[.int .i64 pk, .int .i64 pn, .string pt], L4.boxR (w.heap.size + 1 + 1) 31 #[.slice ra M rc], L4.boxR (w.heap.size + 1 + 1 + 1) 26 #[.string ⟨#[]⟩, .slice none 0 0, .int .i64 0], Sv.ownV 40 4 (some ⟨g3, 0, none⟩) N N (cellsI (ys3.set i ⟨ys3[i].k, a1, c1, rl⟩)), L4.boxR g1 26 #[.string name, .slice (some ⟨g3, 0, none⟩) N N, .int .i64 auto], Bag.bag (rowsI (ys3.set i ⟨ys3[i].k, a1, c1, rl⟩)), Bag.bag ([])] from (by rw [rowsI_set]; exact bag_swap S13.out 6 rfl i (by unfold rowsI; rw [List.length_map]; exact hiy)))
      clear S13
      have S15 := Lib.hid (show Sl.Sep w _ [L4.boxR w.heap.size 26 #[.string name, .slice a N c, .int .i64 auto], L4.boxR (w.heap.size + 1) 28 #[.int .i64 pk, .int .i64 pn, .string pt], L4.boxR (w.heap.size + 1 + 1) 31 #[.slice ra M rc], L4.boxR (w.heap.size + 1 + 1 + 1) 26 #[.string ⟨#[]⟩, .slice none 0 0, .int .i64 0], Bag.bag ([rowI (some ⟨g3, 0, none⟩) N (ys3.set i ⟨ys3[i].k, a1, c1, rl⟩)]), L4.boxR g1 26 #[.string name, .slice (some ⟨g3, 0, none⟩) N N, .int .i64 auto], Bag.bag (rowsI (ys3.set i ⟨ys3[i].k, a1, c1, rl⟩)), Bag.bag ([])] from Bag.bag_of_one S14.out 4 (r := rowI (some ⟨g3, 0, none⟩) N (ys3.set i ⟨ys3[i].k, a1, c1, rl⟩)) (by unfold RowS.res rowI; dsimp only; rw [List.length_set, hyl]; rfl))
      clear S14
      have S16 := Lib.hid (show Sl.Sep w _ [L4.boxR w.heap.size 26 #[.string name, .slice a N c, .int .i64 auto], L4.boxR (w.heap.size + 1) 28 #[.int .i64 pk, .int .i64 pn, .string pt], L4.boxR (w.heap.size + 1 + 1) 31 #[.slice ra M rc], L4.boxR (w.heap.size + 1 + 1 + 1) 26 #[.string ⟨#[]⟩, .slice none 0 0, .int .i64 0], Bag.bag ([rowI (some ⟨g3, 0, none⟩) N (ys3.set i ⟨ys3[i].k, a1, c1, rl⟩)] ++ (rowsI (ys3.set i ⟨ys3[i].k, a1, c1, rl⟩))), L4.boxR g1 26 #[.string name, .slice (some ⟨g3, 0, none⟩) N N, .int .i64 auto], Bag.bag ([]), Bag.bag ([])] from Bag.bag_join S15.out 4 6 (by decide) rfl rfl)
      clear S15
      have S17 := Lib.hid (show Sl.Sep w _ [L4.boxR w.heap.size 26 #[.string name, .slice a N c, .int .i64 auto], L4.boxR (w.heap.size + 1) 28 #[.int .i64 pk, .int .i64 pn, .string pt], L4.boxR (w.heap.size + 1 + 1) 31 #[.slice ra M rc], L4.boxR (w.heap.size + 1 + 1 + 1) 26 #[.string ⟨#[]⟩, .slice none 0 0, .int .i64 0], Bag.bag (LS.rows (LS.mk name (some ⟨g3, 0, none⟩) N (ys3.set i ⟨ys3[i].k, a1, c1, rl⟩) auto)), L4.boxR g1 26 #[.string name, .slice (some ⟨g3, 0, none⟩) N N, .int .i64 auto]] from Bag.take S16.out [0, 1, 2, 3, 4, 5] (by rfl) (by decide))
      clear S16
      have HC2 := Lib.hid (show LS.con (LS.mk name (some ⟨g3, 0, none⟩) N (ys3.set i ⟨ys3[i].k, a1, c1, rl⟩) auto) = ⟨name, (conI xs).set i ⟨⟨pk, pn, pt⟩, rl⟩, auto⟩ from by unfold LS.con; dsimp only; rw [conI_set, HCON3.out]; unfold LI.con; dsimp only; rw [HKI.out])
      have hfit : FitS (LS.con (LS.mk name (some ⟨g3, 0, none⟩) N (ys3.set i ⟨ys3[i].k, a1, c1, rl⟩) auto)) := (by rw [HC2.out]; exact HFY.out.set i _ HFZ.out)
      have HIS2 := Lib.hid (fun w' (h : RowsRd w' w'.heap.size (LS.rows (LS.mk name (some ⟨g3, 0, none⟩) N (ys3.set i ⟨ys3[i].k, a1, c1, rl⟩) auto))) => isStore_any (LS.mk name (some ⟨g3, 0, none⟩) N (ys3.set i ⟨ys3[i].k, a1, c1, rl⟩) auto) hfit w' h)
      obtain ⟨bs2, hbs2⟩ : ∃ b, isS (LS.con (LS.mk name (some ⟨g3, 0, none⟩) N (ys3.set i ⟨ys3[i].k, a1, c1, rl⟩) auto)) = b := ⟨_, rfl⟩
      rw [hbs2] at HIS2
      have HBS2 := Lib.hid hbs2
      clear hbs2 hfit
      dsimp only [LS.v, LS.cells] at HIS2
      rw [List.length_set, hyl] at HIS2
      have f0 : World.cell? _ ⟨w.heap.size, 0, none⟩ = some (.string name) := Bag.cell_at S17.out 0 rfl 0 rfl
      have f1 : World.cell? _ ⟨w.heap.size, 1, none⟩ = some (.slice a N c) := Bag.cell_at S17.out 0 rfl 1 rfl
      have f2 : World.cell? _ ⟨w.heap.size, 2, none⟩ = some (.int .i64 auto) := Bag.cell_at S17.out 0 rfl 2 rfl
      have f3 : World.cell? _ ⟨w.heap.size + 1, 0, none⟩ = some (.int .i64 pk) := Bag.cell_at S17.out 1 rfl 0 rfl
      have f4 : World.cell? _ ⟨w.heap.size + 1, 1, none⟩ = some (.int .i64 pn) := Bag.cell_at S17.out 1 rfl 1 rfl
      have f5 : World.cell? _ ⟨w.heap.size + 1, 2, none⟩ = some (.string pt) := Bag.cell_at S17.out 1 rfl 2 rfl
      have f6 : World.cell? _ ⟨w.heap.size + 1 + 1, 0, none⟩ = some (.slice ra M rc) := Bag.cell_at S17.out 2 rfl 0 rfl
      have f7 : World.cell? _ ⟨w.heap.size + 1 + 1 + 1, 0, none⟩ = some (.string ⟨#[]⟩) := Bag.cell_at S17.out 3 rfl 0 rfl
      have f8 : World.cell? _ ⟨w.heap.size + 1 + 1 + 1, 1, none⟩ = some (.slice none 0 0) := Bag.cell_at S17.out 3 rfl 1 rfl
      have f9 : World.cell? _ ⟨w.heap.size + 1 + 1 + 1, 2, none⟩ = some (.int .i64 0) := Bag.cell_at S17.out 3 rfl 2 rfl
      have f10 : World.cell? _ ⟨g1, 0, none⟩ = some (.string name) := Bag.cell_at S17.out 5 rfl 0 rfl
      have f11 : World.cell? _ ⟨g1, 1, none⟩ = some (.slice (some ⟨g3, 0, none⟩) N N) := Bag.cell_at S17.out 5 rfl 1 rfl
      have f12 : World.cell? _ ⟨g1, 2, none⟩ = some (.int .i64 auto) := Bag.cell_at S17.out 5 rfl 2 rfl
      go_wp2_with fail
      go_at_call 22
      refine (HIS2.out _ (Bag.bag_rd S17.out 4 rfl)).mono ?_
      rintro e w7 ⟨rfl, hb⟩
      clear f0 f1 f2 f3 f4 f5 f6 f7 f8 f9 f10 f11 f12
      have S18 := Lib.hid (show Sl.Sep w _ [L4.boxR w.heap.size 26 #[.string name, .slice a N c, .int .i64 auto], L4.boxR (w.heap.size + 1) 28 #[.int .i64 pk, .int .i64 pn, .string pt], L4.boxR (w.heap.size + 1 + 1) 31 #[.slice ra M rc], L4.boxR (w.heap.size + 1 + 1 + 1) 26 #[.string ⟨#[]⟩, .slice none 0 0, .int .i64 0], Bag.bag (LS.rows (LS.mk name (some ⟨g3, 0, none⟩) N (ys3.set i ⟨ys3[i].k, a1, c1, rl⟩) auto)), L4.boxR g1 26 #[.string name, .slice (some ⟨g3, 0, none⟩) N N, .int .i64 auto]] from S17.out.keep hb)
      clear S17
      clear hb
      have f0 : World.cell? _ ⟨w.heap.size, 0, none⟩ = some (.string name) := Bag.cell_at S18.out 0 rfl 0 rfl
      have f1 : World.cell? _ ⟨w.heap.size, 1, none⟩ = some (.slice a N c) := Bag.cell_at S18.out 0 rfl 1 rfl
      have f2 : World.cell? _ ⟨w.heap.size, 2, none⟩ = some (.int .i64 auto) := Bag.cell_at S18.out 0 rfl 2 rfl
      have f3 : World.cell? _ ⟨w.heap.size + 1, 0, none⟩ = some (.int .i64 pk) := Bag.cell_at S18.out 1 rfl 0 rfl
      have f4 : World.cell? _ ⟨w.heap.size + 1, 1, none⟩ = some (.int .i64 pn) := Bag.cell_at S18.out 1 rfl 1 rfl
      have f5 : World.cell? _ ⟨w.heap.size + 1, 2, none⟩ = some (.string pt) := Bag.cell_at S18.out 1 rfl 2 rfl
      have f6 : World.cell? _ ⟨w.heap.size + 1 + 1, 0, none⟩ = some (.slice ra M rc) := Bag.cell_at S18.out 2 rfl 0 rfl
      have f7 : World.cell? _ ⟨w.heap.size + 1 + 1 + 1, 0, none⟩ = some (.string ⟨#[]⟩) := Bag.cell_at S18.out 3 rfl 0 rfl
      have f8 : World.cell? _ ⟨w.heap.size + 1 + 1 + 1, 1, none⟩ = some (.slice none 0 0) := Bag.cell_at S18.out 3 rfl 1 rfl
      have f9 : World.cell? _ ⟨w.heap.size + 1 + 1 + 1, 2, none⟩ = some (.int .i64 0) := Bag.cell_at S18.out 3 rfl 2 rfl
      have f10 : World.cell? _ ⟨g1, 0, none⟩ = some (.string name) := Bag.cell_at S18.out 5 rfl 0 rfl
      have f11 : World.cell? _ ⟨g1, 1, none⟩ = some (.slice (some ⟨g3, 0, none⟩) N N) := Bag.cell_at S18.out 5 rfl 1 rfl
      have f12 : World.cell? _ ⟨g1, 2, none⟩ = some (.int .i64 auto) := Bag.cell_at S18.out 5 rfl 2 rfl
      have HRES := Lib.hid (show res = if bs2 then (LS.con (LS.mk name (some ⟨g3, 0, none⟩) N (ys3.set i ⟨ys3[i].k, a1, c1, rl⟩) auto), true) else (⟨name, conI xs, auto⟩, false) from by rw [← HP.out, ← HBS2.out]; rw [HC2.out]; exact HE.out)
      cases bs2 with
      | false =>
        go_wp2_with fail
        go_at_call 59
        refine (HCP.out _ S18.out.old).mono ?_
        rintro e w8 ⟨g9, ys9, rfl, hcon, ho, hb⟩
        clear f0 f1 f2 f3 f4 f5 f6 f7 f8 f9 f10 f11 f12
        have S19 := Lib.hid (show Sl.Sep w _ [L4.boxR w.heap.size 26 #[.string name, .slice a N c, .int .i64 auto], L4.boxR (w.heap.size + 1) 28 #[.int .i64 pk, .int .i64 pn, .string pt], L4.boxR (w.heap.size + 1 + 1) 31 #[.slice ra M rc], L4.boxR (w.heap.size + 1 + 1 + 1) 26 #[.string ⟨#[]⟩, .slice none 0 0, .int .i64 0], Bag.bag (LS.rows (LS.mk name (some ⟨g3, 0, none⟩) N (ys3.set i ⟨ys3[i].k, a1, c1, rl⟩) auto)), L4.boxR g1 26 #[.string name, .slice (some ⟨g3, 0, none⟩) N N, .int .i64 auto], Bag.bag (rowI (some ⟨g9, 0, none⟩) ys9.length ys9 :: rowsI ys9)] from Bag.push_bag S18.out hb ho)
        clear S18
        clear hb ho
        have HCON9 := Lib.hid hcon
        clear hcon
        dsimp only at HCON9 ⊢
        have f0 : World.cell? _ ⟨w.heap.size + 1 + 1 + 1, 0, none⟩ = some (.string ⟨#[]⟩) := Bag.cell_at S19.out 3 rfl 0 rfl
        have f1 : World.cell? _ ⟨w.heap.size + 1 + 1 + 1, 1, none⟩ = some (.slice none 0 0) := Bag.cell_at S19.out 3 rfl 1 rfl
        have f2 : World.cell? _ ⟨w.heap.size + 1 + 1 + 1, 2, none⟩ = some (.int .i64 0) := Bag.cell_at S19.out 3 rfl 2 rfl
        have z0 := Bag.free_at S19.out 3 rfl 0
        have z1 := Bag.free_at S19.out 3 rfl 1
        have z2 := Bag.free_at S19.out 3 rfl 2
        go_wp2_with fail
        clear f0 f1 f2 z0 z1 z2
        have S20 := Lib.hid (show Sl.Sep w _ [L4.boxR w.heap.size 26 #[.string name, .slice a N c, .int .i64 auto], L4.boxR (w.heap.size + 1) 28 #[.int .i64 pk, .int .i64 pn, .string pt], L4.boxR (w.heap.size + 1 + 1) 31 #[.slice ra M rc], L4.boxR (w.heap.size + 1 + 1 + 1) 26 #[.string name, .slice (some ⟨g9, 0, none⟩) ys9.length ys9.length, .int .i64 auto], Bag.bag (LS.rows (LS.mk name (some ⟨g3, 0, none⟩) N (ys3.set i ⟨ys3[i].k, a1, c1, rl⟩) auto)), L4.boxR g1 26 #[.string name, .slice (some ⟨g3, 0, none⟩) N N, .int .i64 auto], Bag.bag (rowI (some ⟨g9, 0, none⟩) ys9.length ys9 :: rowsI ys9)] from L5.put_box5 (L5.put_box5 (L5.put_box5 (S19.out) 3 rfl 0 (.string name)) 3 rfl 1 (.slice (some ⟨g9, 0, none⟩) ys9.length ys9.length)) 3 rfl 2 (.int .i64 auto))
        clear S19
        have f0 : World.cell? _ ⟨w.heap.size + 1 + 1 + 1, 0, none⟩ = some (.string name) := Bag.cell_at S20.out 3 rfl 0 rfl
        have f1 : World.cell? _ ⟨w.heap.size + 1 + 1 + 1, 1, none⟩ = some (.slice (some ⟨g9, 0, none⟩) ys9.length ys9.length) := Bag.cell_at S20.out 3 rfl 1 rfl
        have f2 : World.cell? _ ⟨w.heap.size + 1 + 1 + 1, 2, none⟩ = some (.int .i64 auto) := Bag.cell_at S20.out 3 rfl 2 rfl
        refine bodyPost_ret (v := .tuple #[.agg #[.string name, .slice (some ⟨g9, 0, none⟩) ys9.length ys9.length, .int .i64 auto], .bool false]) (by simp [results, Try.results16, go_sem, *]) rfl ?_
        have HE := Lib.hid (show res = (⟨name, conI xs, auto⟩, false) from by rw [← HP.out]; rw [HP.out, HRES.out]; rfl)
        exact ⟨⟨name, some ⟨g9, 0, none⟩, ys9.length, ys9, auto⟩, by rw [HE.out]; rfl, by rw [HE.out]; unfold LS.con; dsimp only; rw [HCON9.out], Bag.bag_from S20.out 6 rfl, S20.out.old⟩
      | true =>
        clear f0 f1 f2 f3 f4 f5 f6 f7 f8 f9 f10 f11 f12
        have f0 : World.cell? _ ⟨w.heap.size + 1 + 1 + 1, 0, none⟩ = some (.string ⟨#[]⟩) := Bag.cell_at S18.out 3 rfl 0 rfl
        have f1 : World.cell? _ ⟨w.heap.size + 1 + 1 + 1, 1, none⟩ = some (.slice none 0 0) := Bag.cell_at S18.out 3 rfl 1 rfl
        have f2 : World.cell? _ ⟨w.heap.size + 1 + 1 + 1, 2, none⟩ = some (.int .i64 0) := Bag.cell_at S18.out 3 rfl 2 rfl
        have f3 : World.cell? _ ⟨g1, 0, none⟩ = some (.string name) := Bag.cell_at S18.out 5 rfl 0 rfl
        have f4 : World.cell? _ ⟨g1, 1, none⟩ = some (.slice (some ⟨g3, 0, none⟩) N N) := Bag.cell_at S18.out 5 rfl 1 rfl
        have f5 : World.cell? _ ⟨g1, 2, none⟩ = some (.int .i64 auto) := Bag.cell_at S18.out 5 rfl 2 rfl
        have z0 := Bag.free_at S18.out 3 rfl 0
        have z1 := Bag.free_at S18.out 3 rfl 1
        have z2 := Bag.free_at S18.out 3 rfl 2
        go_wp2_with fail
        clear f0 f1 f2 f3 f4 f5 z0 z1 z2
        have S19 := Lib.hid (show Sl.Sep w _ [L4.boxR w.heap.size 26 #[.string name, .slice a N c, .int .i64 auto], L4.boxR (w.heap.size + 1) 28 #[.int .i64 pk, .int .i64 pn, .string pt], L4.boxR (w.heap.size + 1 + 1) 31 #[.slice ra M rc], L4.boxR (w.heap.size + 1 + 1 + 1) 26 #[.string name, .slice (some ⟨g3, 0, none⟩) N N, .int .i64 auto], Bag.bag (LS.rows (LS.mk name (some ⟨g3, 0, none⟩) N (ys3.set i ⟨ys3[i].k, a1, c1, rl⟩) auto)), L4.boxR g1 26 #[.string name, .slice (some ⟨g3, 0, none⟩) N N, .int .i64 auto]] from L5.put_box5 (L5.put_box5 (L5.put_box5 (S18.out) 3 rfl 0 (.string name)) 3 rfl 1 (.slice (some ⟨g3, 0, none⟩) N N)) 3 rfl 2 (.int .i64 auto))
        clear S18
        have f0 : World.cell? _ ⟨w.heap.size + 1 + 1 + 1, 0, none⟩ = some (.string name) := Bag.cell_at S19.out 3 rfl 0 rfl
        have f1 : World.cell? _ ⟨w.heap.size + 1 + 1 + 1, 1, none⟩ = some (.slice (some ⟨g3, 0, none⟩) N N) := Bag.cell_at S19.out 3 rfl 1 rfl
        have f2 : World.cell? _ ⟨w.heap.size + 1 + 1 + 1, 2, none⟩ = some (.int .i64 auto) := Bag.cell_at S19.out 3 rfl 2 rfl
        refine bodyPost_ret (v := .tuple #[.agg #[.string name, .slice (some ⟨g3, 0, none⟩) N N, .int .i64 auto], .bool true]) (by simp [results, Try.results16, go_sem, *]) rfl ?_
        clear f0 f1 f2
        refine ⟨(LS.mk name (some ⟨g3, 0, none⟩) N (ys3.set i ⟨ys3[i].k, a1, c1, rl⟩) auto), ?_, ?_, Bag.bag_from S19.out 4 rfl, S19.out.old⟩
        · rw [HRES.out]; unfold LS.v LS.cells; dsimp only; rw [List.length_set, hyl]; rfl
        · rw [HRES.out]; rfl
    | none =>
      have hfi2 : fi = -1 := by have h := HFI.out; unfold fndI at h; rw [hfo] at h; exact h.symm
      subst hfi2
      have HE := Lib.hid (putI_none (l := rl) HBS.out hfo)
      dsimp only at HE
      clear hfo
      obtain ⟨pp, hpp⟩ : ∃ q, plcI (conI xs) ⟨pk, pn, pt⟩ = q := ⟨_, rfl⟩
      have hppN : pp ≤ N := by have h := plcI_le (conI xs) ⟨pk, pn, pt⟩; rw [hpp, conI_length] at h; have := HN.out; omega
      rw [hpp] at HPL HE
      clear hpp
      have hppy : pp ≤ ys3.length := by omega
      obtain ⟨na, hna⟩ : ∃ q, nextAuto auto ⟨pk, pn, pt⟩ = q := ⟨_, rfl⟩
      have HAA := fun w' => autoAfter_any auto ⟨pk, pn, pt⟩ HV16.out.2.1 HV16.out.2.2 w'
      rw [hna] at HAA HE
      replace HAA := Lib.hid HAA
      clear hna
      have HINS := Lib.hid (fun (a1 : Option Addr) (c1 gv : Nat) (w' : World) (hr : Reads w' w'.heap.size (some ⟨g3, 0, none⟩) (cellsI ys3)) (hv : Reads w' w'.heap.size (some ⟨gv, 0, none⟩) [.int .i64 pk, .int .i64 pn, .string pt, .slice a1 M c1]) => insertI_any g3 gv pp ys3 ⟨⟨pk, pn, pt⟩, a1, c1, rl⟩ hppy (by have := HV16.out.1; omega) w' hr (by have h := hv; rw [HM.out] at h; exact h))
      rw [hyl] at HINS
      clear f0 f1 f2 f3 f4 f5 f6 f7 f8 f9 f10 f11 f12
      have f0 : World.cell? _ ⟨w.heap.size, 0, none⟩ = some (.string name) := Bag.cell_at S8.out 0 rfl 0 rfl
      have f1 : World.cell? _ ⟨w.heap.size, 1, none⟩ = some (.slice a N c) := Bag.cell_at S8.out 0 rfl 1 rfl
      have f2 : World.cell? _ ⟨w.heap.size, 2, none⟩ = some (.int .i64 auto) := Bag.cell_at S8.out 0 rfl 2 rfl
      have f3 : World.cell? _ ⟨w.heap.size + 1, 0, none⟩ = some (.int .i64 pk) := Bag.cell_at S8.out 1 rfl 0 rfl
      have f4 : World.cell? _ ⟨w.heap.size + 1, 1, none⟩ = some (.int .i64 pn) := Bag.cell_at S8.out 1 rfl 1 rfl
      have f5 : World.cell? _ ⟨w.heap.size + 1, 2, none⟩ = some (.string pt) := Bag.cell_at S8.out 1 rfl 2 rfl
      have f6 : World.cell? _ ⟨w.heap.size + 1 + 1, 0, none⟩ = some (.slice ra M rc) := Bag.cell_at S8.out 2 rfl 0 rfl
      have f7 : World.cell? _ ⟨w.heap.size + 1 + 1 + 1, 0, none⟩ = some (.string ⟨#[]⟩) := Bag.cell_at S8.out 3 rfl 0 rfl
      have f8 : World.cell? _ ⟨w.heap.size + 1 + 1 + 1, 1, none⟩ = some (.slice none 0 0) := Bag.cell_at S8.out 3 rfl 1 rfl
      have f9 : World.cell? _ ⟨w.heap.size + 1 + 1 + 1, 2, none⟩ = some (.int .i64 0) := Bag.cell_at S8.out 3 rfl 2 rfl
      have f10 : World.cell? _ ⟨g1, 0, none⟩ = some (.string name) := Bag.cell_at S8.out 5 rfl 0 rfl
      have f11 : World.cell? _ ⟨g1, 1, none⟩ = some (.slice (some ⟨g3, 0, none⟩) N N) := Bag.cell_at S8.out 5 rfl 1 rfl
      have f12 : World.cell? _ ⟨g1, 2, none⟩ = some (.int .i64 auto) := Bag.cell_at S8.out 5 rfl 2 rfl
      go_upto_region 7 with fail
      clear f0 f1 f2 f3 f4 f5 f6 f7 f8 f9 f10 f11 f12
      refine Reg.wp_region_late (fun w' => World.cell? w' ⟨w.heap.size, 0, none⟩ = some (.string name) ∧ World.cell? w' ⟨w.heap.size, 1, none⟩ = some (.slice a N c) ∧ World.cell? w' ⟨w.heap.size, 2, none⟩ = some (.int .i64 auto) ∧ World.cell? w' ⟨w.heap.size + 1, 0, none⟩ = some (.int .i64 pk) ∧ World.cell? w' ⟨w.heap.size + 1, 1, none⟩ = some (.int .i64 pn) ∧ World.cell? w' ⟨w.heap.size + 1, 2, none⟩ = some (.string pt) ∧ World.cell? w' ⟨w.heap.size + 1 + 1, 0, none⟩ = some (.slice ra M rc)) (fun w' => World.cell? w' ⟨g1, 0, none⟩ = some (.string name) ∧ World.cell? w' ⟨g1, 1, none⟩ = some (.slice (some ⟨g3, 0, none⟩) N N) ∧ World.cell? w' ⟨g1, 2, none⟩ = some (.int .i64 auto)) 12 (by kernel_rfl) ⟨Bag.cell_at S8.out 0 rfl 0 rfl, Bag.cell_at S8.out 0 rfl 1 rfl, Bag.cell_at S8.out 0 rfl 2 rfl, Bag.cell_at S8.out 1 rfl 0 rfl, Bag.cell_at S8.out 1 rfl 1 rfl, Bag.cell_at S8.out 1 rfl 2 rfl, Bag.cell_at S8.out 2 rfl 0 rfl⟩ ⟨Bag.cell_at S8.out 5 rfl 0 rfl, Bag.cell_at S8.out 5 rfl 1 rfl, Bag.cell_at S8.out 5 rfl 2 rfl⟩ (fun hS hL => ?_)
      have S9 := Lib.hid (show Sl.Sep w _ [L4.boxR w.heap.size 26 #[.string name, .slice a N c, .int .i64 auto], L4.boxR (w.heap.size + 1) 28 #[.int .i64 pk, .int .i64 pn, .string pt], L4.boxR (w.heap.size + 1 + 1) 31 #[.slice ra M rc], L4.boxR (w.heap.size + 1 + 1 + 1) 26 #[.string ⟨#[]⟩, .slice none 0 0, .int .i64 0], Sv.ownV 40 4 (some ⟨g3, 0, none⟩) N N (cellsI ys3), L4.boxR g1 26 #[.string name, .slice (some ⟨g3, 0, none⟩) N N, .int .i64 auto], Bag.bag (rowsI ys3)] from Bag.drew1 S8.out)
      clear S8
      generalize World.drew _ = w5 at hS hL S9 ⊢
      refine Reg.early_op (i := 0) (v := ?_) rfl (by kernel_rfl) (by kernel_rfl) (by kernel_rfl) rfl (by kernel_rfl) (by kernel_rfl) (fun _ _ _ h => h) (by rfl) ?_ hS hL ?_
      rotate_left
      · (intro w hSw hSv; (try dsimp only at hSw); (try dsimp only at hSv); go_simp; try with_reducible rfl)
      try simp only [zp0, zp1, zp2, zp3, zp4]
      refine Reg.early_op (i := 1) (v := ?_) rfl (by kernel_rfl) (by kernel_rfl) (by kernel_rfl) rfl (by kernel_rfl) (by kernel_rfl) (fun _ _ _ h => h) (by rfl) ?_ hS hL ?_
      rotate_left
      · (intro w hSw hSv; (try dsimp only at hSw); (try dsimp only at hSv); go_simp; try with_reducible rfl)
      try simp only [zp0, zp1, zp2, zp3, zp4]
      refine Reg.early_op (i := 2) (v := ?_) rfl (by kernel_rfl) (by kernel_rfl) (by kernel_rfl) rfl (by kernel_rfl) (by kernel_rfl) (fun _ _ _ h => h) (by rfl) ?_ hS hL ?_
      rotate_left
      · (intro w hSw hSv; (try dsimp only at hSw); (try dsimp only at hSv); go_simp; try with_reducible rfl)
      try simp only [zp0, zp1, zp2, zp3, zp4]
      refine Reg.early_op (i := 3) (v := ?_) rfl (by kernel_rfl) (by kernel_rfl) (by kernel_rfl) rfl (by kernel_rfl) (by kernel_rfl) (fun _ _ _ h => h) (by rfl) ?_ hS hL ?_
      rotate_left
      · (intro w hSw hSv; (try dsimp only at hSw); (try dsimp only at hSv); go_simp; try with_reducible rfl)
      try simp only [zp0, zp1, zp2, zp3, zp4]
      refine Reg.early_op (i := 5) (v := ?_) rfl (by kernel_rfl) (by kernel_rfl) (by kernel_rfl) rfl (by kernel_rfl) (by kernel_rfl) (fun _ _ _ h => h) (by rfl) ?_ hS hL ?_
      rotate_left
      · (intro w hSw hSv; (try dsimp only at hSw); (try dsimp only at hSv); go_simp; try with_reducible rfl)
      try simp only [zp0, zp1, zp2, zp3, zp4]
      refine Reg.early_op (i := 6) (v := ?_) rfl (by kernel_rfl) (by kernel_rfl) (by kernel_rfl) rfl (by kernel_rfl) (by kernel_rfl) (fun _ _ _ h => h) (by rfl) ?_ hS hL ?_
      rotate_left
      · (intro w hSw hSv; (try dsimp only at hSw); (try dsimp only at hSv); go_simp; try with_reducible rfl)
      try simp only [zp0, zp1, zp2, zp3, zp4]
      refine Reg.only_op (i := 4) rfl (by kernel_rfl) (fun K hK => ?_)
      go_simp
      go_at_call 62
      refine (HPL.out _ S9.out.old).mono ?_
      rintro e w6 ⟨rfl, hb⟩
      have S10 := Lib.hid (show Sl.Sep w _ [L4.boxR w.heap.size 26 #[.string name, .slice a N c, .int .i64 auto], L4.boxR (w.heap.size + 1) 28 #[.int .i64 pk, .int .i64 pn, .string pt], L4.boxR (w.heap.size + 1 + 1) 31 #[.slice ra M rc], L4.boxR (w.heap.size + 1 + 1 + 1) 26 #[.string ⟨#[]⟩, .slice none 0 0, .int .i64 0], Sv.ownV 40 4 (some ⟨g3, 0, none⟩) N N (cellsI ys3), L4.boxR g1 26 #[.string name, .slice (some ⟨g3, 0, none⟩) N N, .int .i64 auto], Bag.bag (rowsI ys3)] from S9.out.keep hb)
      clear S9
      clear hb
      go_wp2_with fail
      clear hL
      refine hK.out _ _ ⟨Bag.cell_at S10.out 0 rfl 0 rfl, Bag.cell_at S10.out 0 rfl 1 rfl, Bag.cell_at S10.out 0 rfl 2 rfl, Bag.cell_at S10.out 1 rfl 0 rfl, Bag.cell_at S10.out 1 rfl 1 rfl, Bag.cell_at S10.out 1 rfl 2 rfl, Bag.cell_at S10.out 2 rfl 0 rfl⟩ ⟨Bag.cell_at S10.out 5 rfl 0 rfl, Bag.cell_at S10.out 5 rfl 1 rfl, Bag.cell_at S10.out 5 rfl 2 rfl⟩ (fun hS hL => ?_)
      clear hK K
      try simp only [zp0, zp1, zp2, zp3, zp4]
      refine Reg.only_op (i := 7) rfl (by kernel_rfl) (fun K hK => ?_)
      go_simp
      go_at_call 60
      refine (HRC.out _ S10.out.old).mono ?_
      rintro e w7 ⟨a1, c1, rfl, ho, hb⟩
      have S11 := Lib.hid (show Sl.Sep w _ [L4.boxR w.heap.size 26 #[.string name, .slice a N c, .int .i64 auto], L4.boxR (w.heap.size + 1) 28 #[.int .i64 pk, .int .i64 pn, .string pt], L4.boxR (w.heap.size + 1 + 1) 31 #[.slice ra M rc], L4.boxR (w.heap.size + 1 + 1 + 1) 26 #[.string ⟨#[]⟩, .slice none 0 0, .int .i64 0], Sv.ownV 40 4 (some ⟨g3, 0, none⟩) N N (cellsI ys3), L4.boxR g1 26 #[.string name, .slice (some ⟨g3, 0, none⟩) N N, .int .i64 auto], Bag.bag (rowsI ys3), Sv.ownV 102 2 a1 c1 M (cellsF rl)] from Sv.push_own S10.out hb ho)
      clear S10
      clear hb ho
      go_wp2_with fail
      clear hL
      refine hK.out _ _ ⟨Bag.cell_at S11.out 0 rfl 0 rfl, Bag.cell_at S11.out 0 rfl 1 rfl, Bag.cell_at S11.out 0 rfl 2 rfl, Bag.cell_at S11.out 1 rfl 0 rfl, Bag.cell_at S11.out 1 rfl 1 rfl, Bag.cell_at S11.out 1 rfl 2 rfl, Bag.cell_at S11.out 2 rfl 0 rfl⟩ ⟨Bag.cell_at S11.out 5 rfl 0 rfl, Bag.cell_at S11.out 5 rfl 1 rfl, Bag.cell_at S11.out 5 rfl 2 rfl⟩ (fun hS hL => ?_)
      clear hK K
      try simp only [zp0, zp1, zp2, zp3, zp4]
      refine Reg.early_op (i := 8) (v := ?_) rfl (by kernel_rfl) (by kernel_rfl) (by kernel_rfl) rfl (by kernel_rfl) (by kernel_rfl) (fun _ _ _ h => h) (by rfl) ?_ hS hL ?_
      rotate_left
      · (intro w hSw hSv; (try dsimp only at hSw); (try dsimp only at hSv); go_simp; try with_reducible rfl)
      try simp only [zp0, zp1, zp2, zp3, zp4]
      refine Reg.only_op (i := 9) rfl (by kernel_rfl) (fun K hK => ?_)
      go_simp
      have S12 := Lib.hid (show Sl.Sep w _ [L4.boxR w.heap.size 26 #[.string name, .slice a N c, .int .i64 auto], L4.boxR (w.heap.size + 1) 28 #[.int .i64 pk, .int .i64 pn, .string pt], L4.boxR (w.heap.size + 1 + 1) 31 #[.slice ra M rc], L4.boxR (w.heap.size + 1 + 1 + 1) 26 #[.string ⟨#[]⟩, .slice none 0 0, .int .i64 0], Sv.ownV 40 4 (some ⟨g3, 0, none⟩) N N (cellsI ys3), L4.boxR g1 26 #[.string name, .slice (some ⟨g3, 0, none⟩) N N, .int .i64 auto], Bag.bag (rowsI ys3), Sv.ownV 102 2 a1 c1 M (cellsF rl), Sv.ownV 40 4 (some ⟨w7.heap.size, 0, none⟩) 1 1 ([.int .i64 pk, .int .i64 pn, .string pt, .slice a1 M c1])] from Sv.push_own S11.out ((Below.refl _ _).alloc (Nat.le_refl _) _) (OwnV.madeAt w7 40 4 1 w7.heap.size #[.int .i64 pk, .int .i64 pn, .string pt, .slice a1 M c1] rfl (Nat.le_refl _) rfl (by decide)))
      clear S11
      obtain ⟨g2, hg⟩ : ∃ g', g' = w7.heap.size := ⟨_, rfl⟩
      rw [← hg] at S12 ⊢
      clear hg
      generalize w7.alloc (.cells #[.int .i64 pk, .int .i64 pn, .string pt, .slice a1 M c1] 40) = w8 at S12 ⊢
      clear hL
      refine hK.out _ _ ⟨Bag.cell_at S12.out 0 rfl 0 rfl, Bag.cell_at S12.out 0 rfl 1 rfl, Bag.cell_at S12.out 0 rfl 2 rfl, Bag.cell_at S12.out 1 rfl 0 rfl, Bag.cell_at S12.out 1 rfl 1 rfl, Bag.cell_at S12.out 1 rfl 2 rfl, Bag.cell_at S12.out 2 rfl 0 rfl⟩ ⟨Bag.cell_at S12.out 5 rfl 0 rfl, Bag.cell_at S12.out 5 rfl 1 rfl, Bag.cell_at S12.out 5 rfl 2 rfl⟩ (fun hS hL => ?_)
      clear hK K
      try simp only [zp0, zp1, zp2, zp3, zp4]
      refine Reg.only_op (i := 10) rfl (by kernel_rfl) (fun K hK => ?_)
      go_simp
      go_at_call 61
      refine (HINS.out _ _ _ _ (Sv.own_at S12.out 4 rfl).reads (Sv.own_at S12.out 8 rfl).reads).mono ?_
      rintro e w9 ⟨a5, c5, rfl, ho, hb⟩
      have S13 := Lib.hid (show Sl.Sep w _ [L4.boxR w.heap.size 26 #[.string name, .slice a N c, .int .i64 auto], L4.boxR (w.heap.size + 1) 28 #[.int .i64 pk, .int .i64 pn, .string pt], L4.boxR (w.heap.size + 1 + 1) 31 #[.slice ra M rc], L4.boxR (w.heap.size + 1 + 1 + 1) 26 #[.string ⟨#[]⟩, .slice none 0 0, .int .i64 0], Sv.ownV 40 4 (some ⟨g3, 0, none⟩) N N (cellsI ys3), L4.boxR g1 26 #[.string name, .slice (some ⟨g3, 0, none⟩) N N, .int .i64 auto], Bag.bag (rowsI ys3), Sv.ownV 102 2 a1 c1 M (cellsF rl), Sv.ownV 40 4 (some ⟨g2, 0, none⟩) 1 1 ([.int .i64 pk, .int .i64 pn, .string pt, .slice a1 M c1]), Sv.ownV 40 4 a5 c5 (N + 1) (cellsI (ys3.take pp ++ ⟨⟨pk, pn, pt⟩, a1, c1, rl⟩ :: ys3.drop pp))] from Sv.push_own S12.out hb ho)
      clear S12
      clear hb ho
      go_wp2_with fail
      clear hL
      refine hK.out _ _ ⟨Bag.cell_at S13.out 0 rfl 0 rfl, Bag.cell_at S13.out 0 rfl 1 rfl, Bag.cell_at S13.out 0 rfl 2 rfl, Bag.cell_at S13.out 1 rfl 0 rfl, Bag.cell_at S13.out 1 rfl 1 rfl, Bag.cell_at S13.out 1 rfl 2 rfl, Bag.cell_at S13.out 2 rfl 0 rfl⟩ ⟨Bag.cell_at S13.out 5 rfl 0 rfl, Bag.cell_at S13.out 5 rfl 1 rfl, Bag.cell_at S13.out 5 rfl 2 rfl⟩ (fun hS hL => ?_)
      clear hK K
      try simp only [zp0, zp1, zp2, zp3, zp4]
      refine Reg.early_op (i := 11) (v := ?_) rfl (by kernel_rfl) (by kernel_rfl) (by kernel_rfl) rfl (by kernel_rfl) (by kernel_rfl) (fun _ _ _ h => h) (by rfl) ?_ hS hL ?_
      rotate_left
      · (intro w hSw hSv; (try dsimp only at hSw); (try dsimp only at hSv); go_simp; try with_reducible rfl)
      try simp only [zp0, zp1, zp2, zp3, zp4]
      refine Reg.late_op (i := 12) rfl (by kernel_rfl) rfl (fun K hK => ?_)
      have f0 : World.cell? _ ⟨g1, 0, none⟩ = some (.string name) := Bag.cell_at S13.out 5 rfl 0 rfl
      have f1 : World.cell? _ ⟨g1, 1, none⟩ = some (.slice (some ⟨g3, 0, none⟩) N N) := Bag.cell_at S13.out 5 rfl 1 rfl
      have f2 : World.cell? _ ⟨g1, 2, none⟩ = some (.int .i64 auto) := Bag.cell_at S13.out 5 rfl 2 rfl
      have z0 := Bag.free_at S13.out 5 rfl 0
      have z1 := Bag.free_at S13.out 5 rfl 1
      have z2 := Bag.free_at S13.out 5 rfl 2
      go_simp
      clear f0 f1 f2 z0 z1 z2
      have S14 := Lib.hid (show Sl.Sep w _ [L4.boxR w.heap.size 26 #[.string name, .slice a N c, .int .i64 auto], L4.boxR (w.heap.size + 1) 28 #[.int .i64 pk, .int .i64 pn, .string pt], L4.boxR (w.heap.size + 1 + 1) 31 #[.slice ra M rc], L4.boxR (w.heap.size + 1 + 1 + 1) 26 #[.string ⟨#[]⟩, .slice none 0 0, .int .i64 0], Sv.ownV 40 4 (some ⟨g3, 0, none⟩) N N (cellsI ys3), L4.boxR g1 26 #[.string name, .slice a5 (N + 1) c5, .int .i64 auto], Bag.bag (rowsI ys3), Sv.ownV 102 2 a1 c1 M (cellsF rl), Sv.ownV 40 4 (some ⟨g2, 0, none⟩) 1 1 ([.int .i64 pk, .int .i64 pn, .string pt, .slice a1 M c1]), Sv.ownV 40 4 a5 c5 (N + 1) (cellsI (ys3.take pp ++ ⟨⟨pk, pn, pt⟩, a1, c1, rl⟩ :: ys3.drop pp))] from L5.put_box5 (S13.out) 5 rfl 1 (.slice a5 (N + 1) c5))
      clear S13
      refine hK.out _ _ ⟨Bag.cell_at S14.out 0 rfl 0 rfl, Bag.cell_at S14.out 0 rfl 1 rfl, Bag.cell_at S14.out 0 rfl 2 rfl, Bag.cell_at S14.out 1 rfl 0 rfl, Bag.cell_at S14.out 1 rfl 1 rfl, Bag.cell_at S14.out 1 rfl 2 rfl, Bag.cell_at S14.out 2 rfl 0 rfl⟩ (fun hS => ?_)
      clear hL
      clear hK K
      try simp only [zp0, zp1, zp2, zp3, zp4]
      refine Reg.anyL_done (by kernel_rfl) ?_ _
      have f0 : World.cell? _ ⟨w.heap.size, 0, none⟩ = some (.string name) := Bag.cell_at S14.out 0 rfl 0 rfl
      have f1 : World.cell? _ ⟨w.heap.size, 1, none⟩ = some (.slice a N c) := Bag.cell_at S14.out 0 rfl 1 rfl
      have f2 : World.cell? _ ⟨w.heap.size, 2, none⟩ = some (.int .i64 auto) := Bag.cell_at S14.out 0 rfl 2 rfl
      have f3 : World.cell? _ ⟨w.heap.size + 1, 0, none⟩ = some (.int .i64 pk) := Bag.cell_at S14.out 1 rfl 0 rfl
      have f4 : World.cell? _ ⟨w.heap.size + 1, 1, none⟩ = some (.int .i64 pn) := Bag.cell_at S14.out 1 rfl 1 rfl
      have f5 : World.cell? _ ⟨w.heap.size + 1, 2, none⟩ = some (.string pt) := Bag.cell_at S14.out 1 rfl 2 rfl
      have f6 : World.cell? _ ⟨w.heap.size + 1 + 1, 0, none⟩ = some (.slice ra M rc) := Bag.cell_at S14.out 2 rfl 0 rfl
      have f7 : World.cell? _ ⟨w.heap.size + 1 + 1 + 1, 0, none⟩ = some (.string ⟨#[]⟩) := Bag.cell_at S14.out 3 rfl 0 rfl
      have f8 : World.cell? _ ⟨w.heap.size + 1 + 1 + 1, 1, none⟩ = some (.slice none 0 0) := Bag.cell_at S14.out 3 rfl 1 rfl
      have f9 : World.cell? _ ⟨w.heap.size + 1 + 1 + 1, 2, none⟩ = some (.int .i64 0) := Bag.cell_at S14.out 3 rfl 2 rfl
      have f10 : World.cell? _ ⟨g1, 0, none⟩ = some (.string name) := Bag.cell_at S14.out 5 rfl 0 rfl
      have f11 : World.cell? _ ⟨g1, 1, none⟩ = some (.slice a5 (N + 1) c5) := Bag.cell_at S14.out 5 rfl 1 rfl
      have f12 : World.cell? _ ⟨g1, 2, none⟩ = some (.int .i64 auto) := Bag.cell_at S14.out 5 rfl 2 rfl
      go_wp2_with fail
      go_at_call 63
      refine (HAA.out _).mono ?_
      rintro e w10 ⟨rfl, hb⟩
      clear f0 f1 f2 f3 f4 f5 f6 f7 f8 f9 f10 f11 f12
      have S15 := Lib.hid (show Sl.Sep w _ [L4.boxR w.heap.size 26 #[.string name, .slice a N c, .int .i64 auto], L4.boxR (w.heap.size + 1) 28 #[.int .i64 pk, .int .i64 pn, .string pt], L4.boxR (w.heap.size + 1 + 1) 31 #[.slice ra M rc], L4.boxR (w.heap.size + 1 + 1 + 1) 26 #[.string ⟨#[]⟩, .slice none 0 0, .int .i64 0], Sv.ownV 40 4 (some ⟨g3, 0, none⟩) N N (cellsI ys3), L4.boxR g1 26 #[.string name, .slice a5 (N + 1) c5, .int .i64 auto], Bag.bag (rowsI ys3), Sv.ownV 102 2 a1 c1 M (cellsF rl), Sv.ownV 40 4 (some ⟨g2, 0, none⟩) 1 1 ([.int .i64 pk, .int .i64 pn, .string pt, .slice a1 M c1]), Sv.ownV 40 4 a5 c5 (N + 1) (cellsI (ys3.take pp ++ ⟨⟨pk, pn, pt⟩, a1, c1, rl⟩ :: ys3.drop pp))] from S14.out.keep hb)
      clear S14
      clear hb
      have f0 : World.cell? _ ⟨w.heap.size, 0, none⟩ = some (.string name) := Bag.cell_at S15.out 0 rfl 0 rfl
      have f1 : World.cell? _ ⟨w.heap.size, 1, none⟩ = some (.slice a N c) := Bag.cell_at S15.out 0 rfl 1 rfl
      have f2 : World.cell? _ ⟨w.heap.size, 2, none⟩ = some (.int .i64 auto) := Bag.cell_at S15.out 0 rfl 2 rfl
      have f3 : World.cell? _ ⟨w.heap.size + 1, 0, none⟩ = some (.int .i64 pk) := Bag.cell_at S15.out 1 rfl 0 rfl
      have f4 : World.cell? _ ⟨w.heap.size + 1, 1, none⟩ = some (.int .i64 pn) := Bag.cell_at S15.out 1 rfl 1 rfl
      have f5 : World.cell? _ ⟨w.heap.size + 1, 2, none⟩ = some (.string pt) := Bag.cell_at S15.out 1 rfl 2 rfl
      have f6 : World.cell? _ ⟨w.heap.size + 1 + 1, 0, none⟩ = some (.slice ra M rc) := Bag.cell_at S15.out 2 rfl 0 rfl
      have f7 : World.cell? _ ⟨w.heap.size + 1 + 1 + 1, 0, none⟩ = some (.string ⟨#[]⟩) := Bag.cell_at S15.out 3 rfl 0 rfl
      have f8 : World.cell? _ ⟨w.heap.size + 1 + 1 + 1, 1, none⟩ = some (.slice none 0 0) := Bag.cell_at S15.out 3 rfl 1 rfl
      have f9 : World.cell? _ ⟨w.heap.size + 1 + 1 + 1, 2, none⟩ = some (.int .i64 0) := Bag.cell_at S15.out 3 rfl 2 rfl
      have f10 : World.cell? _ ⟨g1, 0, none⟩ = some (.string name) := Bag.cell_at S15.out 5 rfl 0 rfl
      have f11 : World.cell? _ ⟨g1, 1, none⟩ = some (.slice a5 (N + 1) c5) := Bag.cell_at S15.out 5 rfl 1 rfl
      have f12 : World.cell? _ ⟨g1, 2, none⟩ = some (.int .i64 auto) := Bag.cell_at S15.out 5 rfl 2 rfl
      have z0 := Bag.free_at S15.out 5 rfl 0
      have z1 := Bag.free_at S15.out 5 rfl 1
      have z2 := Bag.free_at S15.out 5 rfl 2
      go_upto_region 9 with fail
      clear f0 f1 f2 f3 f4 f5 f6 f7 f8 f9 f10 f11 f12 z0 z1 z2
      have S16 := Lib.hid (show Sl.Sep w _ [L4.boxR w.heap.size 26 #[.string name, .slice a N c, .int .i64 auto], L4.boxR (w.heap.size + 1) 28 #[.int .i64 pk, .int .i64 pn, .string pt], L4.boxR (w.heap.size + 1 + 1) 31 #[.slice ra M rc], L4.boxR (w.heap.size + 1 + 1 + 1) 26 #[.string ⟨#[]⟩, .slice none 0 0, .int .i64 0], Sv.ownV 40 4 (some ⟨g3, 0, none⟩) N N (cellsI ys3), L4.boxR g1 26 #[.string name, .slice a5 (N + 1) c5, .int .i64 na], Bag.bag (rowsI ys3), Sv.ownV 102 2 a1 c1 M (cellsF rl), Sv.ownV 40 4 (some ⟨g2, 0, none⟩) 1 1 ([.int .i64 pk, .int .i64 pn, .string pt, .slice a1 M c1]), Sv.ownV 40 4 a5 c5 (N + 1) (cellsI (ys3.take pp ++ ⟨⟨pk, pn, pt⟩, a1, c1, rl⟩ :: ys3.drop pp))] from L5.put_box5 (S15.out) 5 rfl 2 (.int .i64 na))
      clear S15
      have S17 := Lib.hid (show Sl.Sep w _ [L4.boxR w.heap.size 26 #[.string name, .slice a N c, .int .i64 auto], L4.boxR (w.heap.size + 1) 28 #[.int .i64 pk, .int .i64 pn, .string pt], L4.boxR (w.heap.size + 1 + 1) 31 #[.slice ra M rc], L4.boxR (w.heap.size + 1 + 1 + 1) 26 #[.string ⟨#[]⟩, .slice none 0 0, .int .i64 0], Sv.ownV 40 4 a5 c5 (N + 1) (cellsI (ys3.take pp ++ ⟨⟨pk, pn, pt⟩, a1, c1, rl⟩ :: ys3.drop pp)), L4.boxR g1 26 #[.string name, .slice a5 (N + 1) c5, .int .i64 na], Bag.bag (rowsI ys3), Sv.ownV 102 2 a1 c1 M (cellsF rl)] from Bag.take S16.out [0, 1, 2, 3, 9, 5, 6, 7] (by rfl) (by decide))
      clear S16
      have S18 := Lib.hid (show Sl.Sep w _ [L4.boxR w.heap.size 26 #[.string name, .slice a N c, .int .i64 auto], L4.boxR (w.heap.size + 1) 28 #[.int .i64 pk, .int .i64 pn, .string pt], L4.boxR (w.heap.size + 1 + 1) 31 #[.slice ra M rc], L4.boxR (w.heap.size + 1 + 1 + 1) 26 #[.string ⟨#[]⟩, .slice none 0 0, .int .i64 0], Sv.ownV 40 4 a5 c5 (N + 1) (cellsI (ys3.take pp ++ ⟨⟨pk, pn, pt⟩, a1, c1, rl⟩ :: ys3.drop pp)), L4.boxR g1 26 #[.string name, .slice a5 (N + 1) c5, .int .i64 na], Bag.bag (rowsI ys3), Bag.bag ([(LI.mk ⟨pk, pn, pt⟩ a1 c1 rl).row])] from Bag.bag_of_one S17.out 7 (r := (LI.mk ⟨pk, pn, pt⟩ a1 c1 rl).row) (by show some _ = some _; rw [HM.out]; rfl))
      clear S17
      have S19 := Lib.hid (show Sl.Sep w _ [L4.boxR w.heap.size 26 #[.string name, .slice a N c, .int .i64 auto], L4.boxR (w.heap.size + 1) 28 #[.int .i64 pk, .int .i64 pn, .string pt], L4.boxR (w.heap.size + 1 + 1) 31 #[.slice ra M rc], L4.boxR (w.heap.size + 1 + 1 + 1) 26 #[.string ⟨#[]⟩, .slice none 0 0, .int .i64 0], Sv.ownV 40 4 a5 c5 (N + 1) (cellsI (ys3.take pp ++ ⟨⟨pk, pn, pt⟩, a1, c1, rl⟩ :: ys3.drop pp)), L4.boxR g1 26 #[.string name, .slice a5 (N + 1) c5, .int .i64 na], Bag.bag (rowsI ys3 ++ ([(LI.mk ⟨pk, pn, pt⟩ a1 c1 rl).row])), Bag.bag ([])] from Bag.bag_join S18.out 6 7 (by decide) rfl rfl)
      clear S18
      have S20 := Lib.hid (show Sl.Sep w _ [L4.boxR w.heap.size 26 #[.string name, .slice a N c, .int .i64 auto], L4.boxR (w.heap.size + 1) 28 #[.int .i64 pk, .int .i64 pn, .string pt], L4.boxR (w.heap.size + 1 + 1) 31 #[.slice ra M rc], L4.boxR (w.heap.size + 1 + 1 + 1) 26 #[.string ⟨#[]⟩, .slice none 0 0, .int .i64 0], Sv.ownV 40 4 a5 c5 (N + 1) (cellsI (ys3.take pp ++ ⟨⟨pk, pn, pt⟩, a1, c1, rl⟩ :: ys3.drop pp)), L4.boxR g1 26 #[.string name, .slice a5 (N + 1) c5, .int .i64 na], Bag.bag (rowsI (ys3.take pp ++ ⟨⟨pk, pn, pt⟩, a1, c1, rl⟩ :: ys3.drop pp)), Bag.bag ([])] from Bag.bag_perm S19.out 6 rfl (rowsI_ins ys3 pp ⟨⟨pk, pn, pt⟩, a1, c1, rl⟩))
      clear S19
      have hlz : (ys3.take pp ++ ⟨⟨pk, pn, pt⟩, a1, c1, rl⟩ :: ys3.drop pp).length = N + 1 := by rw [List.length_append, List.length_cons, List.length_take, List.length_drop]; omega
      have S21 := Lib.hid (show Sl.Sep w _ [L4.boxR w.heap.size 26 #[.string name, .slice a N c, .int .i64 auto], L4.boxR (w.heap.size + 1) 28 #[.int .i64 pk, .int .i64 pn, .string pt], L4.boxR (w.heap.size + 1 + 1) 31 #[.slice ra M rc], L4.boxR (w.heap.size + 1 + 1 + 1) 26 #[.string ⟨#[]⟩, .slice none 0 0, .int .i64 0], Bag.bag ([rowI a5 c5 (ys3.take pp ++ ⟨⟨pk, pn, pt⟩, a1, c1, rl⟩ :: ys3.drop pp)]), L4.boxR g1 26 #[.string name, .slice a5 (N + 1) c5, .int .i64 na], Bag.bag (rowsI (ys3.take pp ++ ⟨⟨pk, pn, pt⟩, a1, c1, rl⟩ :: ys3.drop pp)), Bag.bag ([])] from Bag.bag_of_one S20.out 4 (r := rowI a5 c5 (ys3.take pp ++ ⟨⟨pk, pn, pt⟩, a1, c1, rl⟩ :: ys3.drop pp)) (by unfold RowS.res rowI; dsimp only; rw [hlz]; rfl))
      clear S20
      have S22 := Lib.hid (show Sl.Sep w _ [L4.boxR w.heap.size 26 #[.string name, .slice a N c, .int .i64 auto], L4.boxR (w.heap.size + 1) 28 #[.int .i64 pk, .int .i64 pn, .string pt], L4.boxR (w.heap.size + 1 + 1) 31 #[.slice ra M rc], L4.boxR (w.heap.size + 1 + 1 + 1) 26 #[.string ⟨#[]⟩, .slice none 0 0, .int .i64 0], Bag.bag ([rowI a5 c5 (ys3.take pp ++ ⟨⟨pk, pn, pt⟩, a1, c1, rl⟩ :: ys3.drop pp)] ++ (rowsI (ys3.take pp ++ ⟨⟨pk, pn, pt⟩, a1, c1, rl⟩ :: ys3.drop pp))), L4.boxR g1 26 #[.string name, .slice a5 (N + 1) c5, .int .i64 na], Bag.bag ([]), Bag.bag ([])] from Bag.bag_join S21.out 4 6 (by decide) rfl rfl)
      clear S21
      have S23 := Lib.hid (show Sl.Sep w _ [L4.boxR w.heap.size 26 #[.string name, .slice a N c, .int .i64 auto], L4.boxR (w.heap.size + 1) 28 #[.int .i64 pk, .int .i64 pn, .string pt], L4.boxR (w.heap.size + 1 + 1) 31 #[.slice ra M rc], L4.boxR (w.heap.size + 1 + 1 + 1) 26 #[.string ⟨#[]⟩, .slice none 0 0, .int .i64 0], Bag.bag (LS.rows (LS.mk name a5 c5 (ys3.take pp ++ ⟨⟨pk, pn, pt⟩, a1, c1, rl⟩ :: ys3.drop pp) na)), L4.boxR g1 26 #[.string name, .slice a5 (N + 1) c5, .int .i64 na]] from Bag.take S22.out [0, 1, 2, 3, 4, 5] (by rfl) (by decide))
      clear S22
      have HC2 := Lib.hid (show LS.con (LS.mk name a5 c5 (ys3.take pp ++ ⟨⟨pk, pn, pt⟩, a1, c1, rl⟩ :: ys3.drop pp) na) = ⟨name, (conI xs).take pp ++ ⟨⟨pk, pn, pt⟩, rl⟩ :: (conI xs).drop pp, na⟩ from by unfold LS.con; dsimp only; rw [conI_ins, HCON3.out]; rfl)
      have hfit : FitS (LS.con (LS.mk name a5 c5 (ys3.take pp ++ ⟨⟨pk, pn, pt⟩, a1, c1, rl⟩ :: ys3.drop pp) na)) := (by rw [HC2.out]; exact HFY.out.ins pp _ HFZ.out (by rw [conI_length, ← HN.out]; have := HV16.out.1; omega))
      have HIS2 := Lib.hid (fun w' (h : RowsRd w' w'.heap.size (LS.rows (LS.mk name a5 c5 (ys3.take pp ++ ⟨⟨pk, pn, pt⟩, a1, c1, rl⟩ :: ys3.drop pp) na))) => isStore_any (LS.mk name a5 c5 (ys3.take pp ++ ⟨⟨pk, pn, pt⟩, a1, c1, rl⟩ :: ys3.drop pp) na) hfit w' h)
      obtain ⟨bs2, hbs2⟩ : ∃ b, isS (LS.con (LS.mk name a5 c5 (ys3.take pp ++ ⟨⟨pk, pn, pt⟩, a1, c1, rl⟩ :: ys3.drop pp) na)) = b := ⟨_, rfl⟩
      rw [hbs2] at HIS2
      have HBS2 := Lib.hid hbs2
      clear hbs2 hfit
      dsimp only [LS.v, LS.cells] at HIS2
      rw [hlz] at HIS2
      have f0 : World.cell? _ ⟨w.heap.size, 0, none⟩ = some (.string name) := Bag.cell_at S23.out 0 rfl 0 rfl
      have f1 : World.cell? _ ⟨w.heap.size, 1, none⟩ = some (.slice a N c) := Bag.cell_at S23.out 0 rfl 1 rfl
      have f2 : World.cell? _ ⟨w.heap.size, 2, none⟩ = some (.int .i64 auto) := Bag.cell_at S23.out 0 rfl 2 rfl
      have f3 : World.cell? _ ⟨w.heap.size + 1, 0, none⟩ = some (.int .i64 pk) := Bag.cell_at S23.out 1 rfl 0 rfl
      have f4 : World.cell? _ ⟨w.heap.size + 1, 1, none⟩ = some (.int .i64 pn) := Bag.cell_at S23.out 1 rfl 1 rfl
      have f5 : World.cell? _ ⟨w.heap.size + 1, 2, none⟩ = some (.string pt) := Bag.cell_at S23.out 1 rfl 2 rfl
      have f6 : World.cell? _ ⟨w.heap.size + 1 + 1, 0, none⟩ = some (.slice ra M rc) := Bag.cell_at S23.out 2 rfl 0 rfl
      have f7 : World.cell? _ ⟨w.heap.size + 1 + 1 + 1, 0, none⟩ = some (.string ⟨#[]⟩) := Bag.cell_at S23.out 3 rfl 0 rfl
      have f8 : World.cell? _ ⟨w.heap.size + 1 + 1 + 1, 1, none⟩ = some (.slice none 0 0) := Bag.cell_at S23.out 3 rfl 1 rfl
      have f9 : World.cell? _ ⟨w.heap.size + 1 + 1 + 1, 2, none⟩ = some (.int .i64 0) := Bag.cell_at S23.out 3 rfl 2 rfl
      have f10 : World.cell? _ ⟨g1, 0, none⟩ = some (.string name) := Bag.cell_at S23.out 5 rfl 0 rfl
      have f11 : World.cell? _ ⟨g1, 1, none⟩ = some (.slice a5 (N + 1) c5) := Bag.cell_at S23.out 5 rfl 1 rfl
      have f12 : World.cell? _ ⟨g1, 2, none⟩ = some (.int .i64 na) := Bag.cell_at S23.out 5 rfl 2 rfl
      go_wp2_with fail
      go_at_call 22
      refine (HIS2.out _ (Bag.bag_rd S23.out 4 rfl)).mono ?_
      rintro e w11 ⟨rfl, hb⟩
      clear f0 f1 f2 f3 f4 f5 f6 f7 f8 f9 f10 f11 f12
      have S24 := Lib.hid (show Sl.Sep w _ [L4.boxR w.heap.size 26 #[.string name, .slice a N c, .int .i64 auto], L4.boxR (w.heap.size + 1) 28 #[.int .i64 pk, .int .i64 pn, .string pt], L4.boxR (w.heap.size + 1 + 1) 31 #[.slice ra M rc], L4.boxR (w.heap.size + 1 + 1 + 1) 26 #[.string ⟨#[]⟩, .slice none 0 0, .int .i64 0], Bag.bag (LS.rows (LS.mk name a5 c5 (ys3.take pp ++ ⟨⟨pk, pn, pt⟩, a1, c1, rl⟩ :: ys3.drop pp) na)), L4.boxR g1 26 #[.string name, .slice a5 (N + 1) c5, .int .i64 na]] from S23.out.keep hb)
      clear S23
      clear hb
      have f0 : World.cell? _ ⟨w.heap.size, 0, none⟩ = some (.string name) := Bag.cell_at S24.out 0 rfl 0 rfl
      have f1 : World.cell? _ ⟨w.heap.size, 1, none⟩ = some (.slice a N c) := Bag.cell_at S24.out 0 rfl 1 rfl
      have f2 : World.cell? _ ⟨w.heap.size, 2, none⟩ = some (.int .i64 auto) := Bag.cell_at S24.out 0 rfl 2 rfl
      have f3 : World.cell? _ ⟨w.heap.size + 1, 0, none⟩ = some (.int .i64 pk) := Bag.cell_at S24.out 1 rfl 0 rfl
      have f4 : World.cell? _ ⟨w.heap.size + 1, 1, none⟩ = some (.int .i64 pn) := Bag.cell_at S24.out 1 rfl 1 rfl
      have f5 : World.cell? _ ⟨w.heap.size + 1, 2, none⟩ = some (.string pt) := Bag.cell_at S24.out 1 rfl 2 rfl
      have f6 : World.cell? _ ⟨w.heap.size + 1 + 1, 0, none⟩ = some (.slice ra M rc) := Bag.cell_at S24.out 2 rfl 0 rfl
      have f7 : World.cell? _ ⟨w.heap.size + 1 + 1 + 1, 0, none⟩ = some (.string ⟨#[]⟩) := Bag.cell_at S24.out 3 rfl 0 rfl
      have f8 : World.cell? _ ⟨w.heap.size + 1 + 1 + 1, 1, none⟩ = some (.slice none 0 0) := Bag.cell_at S24.out 3 rfl 1 rfl
      have f9 : World.cell? _ ⟨w.heap.size + 1 + 1 + 1, 2, none⟩ = some (.int .i64 0) := Bag.cell_at S24.out 3 rfl 2 rfl
      have f10 : World.cell? _ ⟨g1, 0, none⟩ = some (.string name) := Bag.cell_at S24.out 5 rfl 0 rfl
      have f11 : World.cell? _ ⟨g1, 1, none⟩ = some (.slice a5 (N + 1) c5) := Bag.cell_at S24.out 5 rfl 1 rfl
      have f12 : World.cell? _ ⟨g1, 2, none⟩ = some (.int .i64 na) := Bag.cell_at S24.out 5 rfl 2 rfl
      have HRES := Lib.hid (show res = if bs2 then (LS.con (LS.mk name a5 c5 (ys3.take pp ++ ⟨⟨pk, pn, pt⟩, a1, c1, rl⟩ :: ys3.drop pp) na), true) else (⟨name, conI xs, auto⟩, false) from by rw [← HP.out, ← HBS2.out]; rw [HC2.out]; exact HE.out)
      cases bs2 with
      | false =>
        go_wp2_with fail
        go_at_call 59
        refine (HCP.out _ S24.out.old).mono ?_
        rintro e w12 ⟨g9, ys9, rfl, hcon, ho, hb⟩
        clear f0 f1 f2 f3 f4 f5 f6 f7 f8 f9 f10 f11 f12
        have S25 := Lib.hid (show Sl.Sep w _ [L4.boxR w.heap.size 26 #[.string name, .slice a N c, .int .i64 auto], L4.boxR (w.heap.size + 1) 28 #[.int .i64 pk, .int .i64 pn, .string pt], L4.boxR (w.heap.size + 1 + 1) 31 #[.slice ra M rc], L4.boxR (w.heap.size + 1 + 1 + 1) 26 #[.string ⟨#[]⟩, .slice none 0 0, .int .i64 0], Bag.bag (LS.rows (LS.mk name a5 c5 (ys3.take pp ++ ⟨⟨pk, pn, pt⟩, a1, c1, rl⟩ :: ys3.drop pp) na)), L4.boxR g1 26 #[.string name, .slice a5 (N + 1) c5, .int .i64 na], Bag.bag (rowI (some ⟨g9, 0, none⟩) ys9.length ys9 :: rowsI ys9)] from Bag.push_bag S24.out hb ho)
        clear S24
        clear hb ho
        have HCON9 := Lib.hid hcon
        clear hcon
        dsimp only at HCON9 ⊢
        have f0 : World.cell? _ ⟨w.heap.size + 1 + 1 + 1, 0, none⟩ = some (.string ⟨#[]⟩) := Bag.cell_at S25.out 3 rfl 0 rfl
        have f1 : World.cell? _ ⟨w.heap.size + 1 + 1 + 1, 1, none⟩ = some (.slice none 0 0) := Bag.cell_at S25.out 3 rfl 1 rfl
        have f2 : World.cell? _ ⟨w.heap.size + 1 + 1 + 1, 2, none⟩ = some (.int .i64 0) := Bag.cell_at S25.out 3 rfl 2 rfl
        have z0 := Bag.free_at S25.out 3 rfl 0
        have z1 := Bag.free_at S25.out 3 rfl 1
        have z2 := Bag.free_at S25.out 3 rfl 2
        go_wp2_with fail
        clear f0 f1 f2 z0 z1 z2
        have S26 := Lib.hid (show Sl.Sep w _ [L4.boxR w.heap.size 26 #[.string name, .slice a N c, .int .i64 auto], L4.boxR (w.heap.size + 1) 28 #[.int .i64 pk, .int .i64 pn, .string pt], L4.boxR (w.heap.size + 1 + 1) 31 #[.slice ra M rc], L4.boxR (w.heap.size + 1 + 1 + 1) 26 #[.string name, .slice (some ⟨g9, 0, none⟩) ys9.length ys9.length, .int .i64 auto], Bag.bag (LS.rows (LS.mk name a5 c5 (ys3.take pp ++ ⟨⟨pk, pn, pt⟩, a1, c1, rl⟩ :: ys3.drop pp) na)), L4.boxR g1 26 #[.string name, .slice a5 (N + 1) c5, .int .i64 na], Bag.bag (rowI (some ⟨g9, 0, none⟩) ys9.length ys9 :: rowsI ys9)] from L5.put_box5 (L5.put_box5 (L5.put_box5 (S25.out) 3 rfl 0 (.string name)) 3 rfl 1 (.slice (some ⟨g9, 0, none⟩) ys9.length ys9.length)) 3 rfl 2 (.int .i64 auto))
        clear S25
        have f0 : World.cell? _ ⟨w.heap.size + 1 + 1 + 1, 0, none⟩ = some (.string name) := Bag.cell_at S26.out 3 rfl 0 rfl
        have f1 : World.cell? _ ⟨w.heap.size + 1 + 1 + 1, 1, none⟩ = some (.slice (some ⟨g9, 0, none⟩) ys9.length ys9.length) := Bag.cell_at S26.out 3 rfl 1 rfl
        have f2 : World.cell? _ ⟨w.heap.size + 1 + 1 + 1, 2, none⟩ = some (.int .i64 auto) := Bag.cell_at S26.out 3 rfl 2 rfl
        refine bodyPost_ret (v := .tuple #[.agg #[.string name, .slice (some ⟨g9, 0, none⟩) ys9.length ys9.length, .int .i64 auto], .bool false]) (by simp [results, Try.results16, go_sem, *]) rfl ?_
        have HE := Lib.hid (show res = (⟨name, conI xs, auto⟩, false) from by rw [← HP.out]; rw [HP.out, HRES.out]; rfl)
        exact ⟨⟨name, some ⟨g9, 0, none⟩, ys9.length, ys9, auto⟩, by rw [HE.out]; rfl, by rw [HE.out]; unfold LS.con; dsimp only; rw [HCON9.out], Bag.bag_from S26.out 6 rfl, S26.out.old⟩
      | true =>
        clear f0 f1 f2 f3 f4 f5 f6 f7 f8 f9 f10 f11 f12
        have f0 : World.cell? _ ⟨w.heap.size + 1 + 1 + 1, 0, none⟩ = some (.string ⟨#[]⟩) := Bag.cell_at S24.out 3 rfl 0 rfl
        have f1 : World.cell? _ ⟨w.heap.size + 1 + 1 + 1, 1, none⟩ = some (.slice none 0 0) := Bag.cell_at S24.out 3 rfl 1 rfl
        have f2 : World.cell? _ ⟨w.heap.size + 1 + 1 + 1, 2, none⟩ = some (.int .i64 0) := Bag.cell_at S24.out 3 rfl 2 rfl
        have f3 : World.cell? _ ⟨g1, 0, none⟩ = some (.string name) := Bag.cell_at S24.out 5 rfl 0 rfl
        have f4 : World.cell? _ ⟨g1, 1, none⟩ = some (.slice a5 (N + 1) c5) := Bag.cell_at S24.out 5 rfl 1 rfl
        have f5 : World.cell? _ ⟨g1, 2, none⟩ = some (.int .i64 na) := Bag.cell_at S24.out 5 rfl 2 rfl
        have z0 := Bag.free_at S24.out 3 rfl 0
        have z1 := Bag.free_at S24.out 3 rfl 1
        have z2 := Bag.free_at S24.out 3 rfl 2
        go_wp2_with fail
        clear f0 f1 f2 f3 f4 f5 z0 z1 z2
        have S25 := Lib.hid (show Sl.Sep w _ [L4.boxR w.heap.size 26 #[.string name, .slice a N c, .int .i64 auto], L4.boxR (w.heap.size + 1) 28 #[.int .i64 pk, .int .i64 pn, .string pt], L4.boxR (w.heap.size + 1 + 1) 31 #[.slice ra M rc], L4.boxR (w.heap.size + 1 + 1 + 1) 26 #[.string name, .slice a5 (N + 1) c5, .int .i64 na], Bag.bag (LS.rows (LS.mk name a5 c5 (ys3.take pp ++ ⟨⟨pk, pn, pt⟩, a1, c1, rl⟩ :: ys3.drop pp) na)), L4.boxR g1 26 #[.string name, .slice a5 (N + 1) c5, .int .i64 na]] from L5.put_box5 (L5.put_box5 (L5.put_box5 (S24.out) 3 rfl 0 (.string name)) 3 rfl 1 (.slice a5 (N + 1) c5)) 3 rfl 2 (.int .i64 na))
        clear S24
        have f0 : World.cell? _ ⟨w.heap.size + 1 + 1 + 1, 0, none⟩ = some (.string name) := Bag.cell_at S25.out 3 rfl 0 rfl
        have f1 : World.cell? _ ⟨w.heap.size + 1 + 1 + 1, 1, none⟩ = some (.slice a5 (N + 1) c5) := Bag.cell_at S25.out 3 rfl 1 rfl
        have f2 : World.cell? _ ⟨w.heap.size + 1 + 1 + 1, 2, none⟩ = some (.int .i64 na) := Bag.cell_at S25.out 3 rfl 2 rfl
        refine bodyPost_ret (v := .tuple #[.agg #[.string name, .slice a5 (N + 1) c5, .int .i64 na], .bool true]) (by simp [results, Try.results16, go_sem, *]) rfl ?_
        clear f0 f1 f2
        refine ⟨(LS.mk name a5 c5 (ys3.take pp ++ ⟨⟨pk, pn, pt⟩, a1, c1, rl⟩ :: ys3.drop pp) na), ?_, ?_, Bag.bag_from S25.out 4 rfl, S25.out.old⟩
        · rw [HRES.out]; unfold LS.v LS.cells; dsimp only; rw [hlz]; rfl
        · rw [HRES.out]; rfl
end Go.Proofs.Ytkfejjoehgipmaa.L6
