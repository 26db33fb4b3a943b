/-
  What the law FnExactUpgradeTo needs, laid by my program lawpack.py, part 4: the texts L8Sb, L8Pm, L8Sc, L8Sd, L5Cp, CeItem, L6Ia, L4Im0, L5Ia, L5Ib, L4Im2, L4Im1, L4Im3, L4Arr, one behind the other; each begins with its own words.
-/
import Derived.Test.YthljdhfgphebnaaGreatFnExactUpgradeToP3
set_option linter.unusedSimpArgs false
set_option linter.unusedVariables false
set_option maxRecDepth 100000
set_option linter.unusedSimpArgs false
namespace Go.Proofs.YthljdhfgphebnaaGreat.L8
open V L6 L7
open L4 (K isK cmpK)
open L5 (F isR isN string_geq)
open Go.Op (bytesLess)
open Go.ChangeShapes Go.WideShapes Go.ChangeAt Go.RowKit Mem Sl Ex L2 Sv Bag

set_option maxHeartbeats 8000000 in
theorem l8Copy_any (z : Y_Database) (hf : FitD (co_Database z)) (w : World) (hr : RowsRd w w.heap.size (rw_Database z)) :
  Calls Tryz.prog 30 #[vv_Database z] w (GaveD w (co_Database z)) := by
 obtain ⟨iS, hi1, hi2, hi3, hi4⟩ := infoL_Store
 have HIS := Lib.hid (And.intro hi1 (And.intro hi2 (And.intro hi3 hi4)))
 clear hi1 hi2 hi3 hi4
 obtain ⟨iX, hi1, hi2, hi3, hi4⟩ := infoL_IndexDef
 have HIX := Lib.hid (And.intro hi1 (And.intro hi2 (And.intro hi3 hi4)))
 clear hi1 hi2 hi3 hi4
 have HR : Hid (∀ w' (h : Below w.heap.size w w'), Reads w' w.heap.size z.f_Stores_a (z.f_Stores.flatMap cl_Store)) := Lib.hid (fun w' h => (rdS hr).below h)
 have HX : Hid (∀ w' (h : Below w.heap.size w w'), RowsRd w' w'.heap.size (rws_Store z.f_Stores)) := Lib.hid (fun w' h => ((rdX hr).below h).more h.size)
 have HU : Hid (∀ w' (h : Below w.heap.size w w'), Reads w' w.heap.size z.f_Unique_a (z.f_Unique.flatMap cl_IndexDef)) := Lib.hid (fun w' h => (rdU hr).below h)
 have HFD := Lib.hid hf
 have HFDl : z.f_Stores.length ≤ 1048576 := by have h := hf.len; rwa [co_len] at h
 have HFDm : z.f_Unique.length ≤ 1048576 := hf.many
 clear hf hr
 obtain ⟨name, ver, sa, sc, ss, ua, uc, us⟩ := z
 dsimp only [co_Database] at HR HX HU HFD HFDl HFDm
 try unfold vv_Database
 try unfold co_Database
 try dsimp only
 try rw [show coS_IndexDef us = us from rfl]
 rw [show coS_IndexDef us = us from rfl] at HFD
 obtain ⟨N, hN⟩ : ∃ n, n = ss.length := ⟨_, rfl⟩
 obtain ⟨M, hM⟩ : ∃ n, n = us.length := ⟨_, rfl⟩
 rw [← hN] at HFDl ⊢
 rw [← hM] at HFDm ⊢
 have HFDl' : (N : Int) ≤ 1048576 := by omega
 have HFDm' : (M : Int) ≤ 1048576 := by omega
 have HN := Lib.hid hN
 have HM := Lib.hid hM
 clear hN hM
 have S1 := Lib.hid (show Sl.Sep w _ [_, _] from L4.push_box (L4.push_box (Sl.Sep.start w) 33 #[.string name, .int .i64 ver, .slice sa N sc, .slice ua M uc] (w.heap.size) (by simp)) 33 #[.string ⟨#[]⟩, .int .i64 0, .slice none 0 0, .slice none 0 0] (w.heap.size + 1) (by simp))
 obtain ⟨wa, hwa⟩ : ∃ w_, w_ = ((w.alloc (.cells #[.string name, .int .i64 ver, .slice sa N sc, .slice ua M uc] 33)).alloc (.cells #[.string ⟨#[]⟩, .int .i64 0, .slice none 0 0, .slice none 0 0] 33)) := ⟨_, rfl⟩
 rw [← hwa] at S1
 go_enter Tryz.func30, Tryz.ntmps30
 go_upto_region 1 with fail
 rw [← hwa]
 clear hwa
 have HUL := Lib.hid (show (us.flatMap cl_IndexDef).length = M * 2 by rw [flat_len cl_IndexDef_len, HM.out])
 go_cut [3] (fun z3 wx => ∃ (g3 : Nat) (A : Option Addr) (C : Nat), z3 = .pointer (some ⟨g3, 0, none⟩) ∧ Hid (Sl.Sep w wx [L4.boxR w.heap.size 33 #[.string name, .int .i64 ver, .slice sa N sc, .slice ua M uc], L4.boxR (w.heap.size + 1) 33 #[.string ⟨#[]⟩, .int .i64 0, .slice none 0 0, .slice none 0 0], Sv.ownV 73 2 A C M (us.flatMap cl_IndexDef), L4.boxR g3 33 #[.string name, .int .i64 ver, .slice none 0 0, .slice A M C]]))
 case first =>
  obtain ⟨f0, f1, f2, f3⟩ := Bag.cs4 S1.out 0 rfl
  clear f0 f1 f2 f3
  refine wp_region_held_drew (S := (fun w' => (w'.cell? ⟨w.heap.size, 0, none⟩ = some (.string name) ∧ w'.cell? ⟨w.heap.size, 1, none⟩ = some (.int .i64 ver) ∧ w'.cell? ⟨w.heap.size, 2, none⟩ = some (.slice sa N sc) ∧ w'.cell? ⟨w.heap.size, 3, none⟩ = some (.slice ua M uc)))) (by kernel_rfl) (Bag.cs4 (Bag.drew1 S1.out) 0 rfl) (fun hS => ?_)
  have S2 := Lib.hid (Bag.drew1 S1.out)
  clear S1
  generalize World.drew _ = w1 at hS S2 ⊢
  refine tk 0 rfl ?_
  try simp only [zp0, zp1, zp2, zp3, zp4]
  refine tk 1 rfl ?_
  try simp only [zp0, zp1, zp2, zp3, zp4]
  refine tk 2 rfl ?_
  try simp only [zp0, zp1, zp2, zp3, zp4]
  refine tk 3 rfl ?_
  try simp only [zp0, zp1, zp2, zp3, zp4]
  refine tk 5 rfl ?_
  try simp only [zp0, zp1, zp2, zp3, zp4]
  refine tk 6 rfl ?_
  try simp only [zp0, zp1, zp2, zp3, zp4]
  refine wpAnyH_ready (rs := [4, 9]) (by kernel_rfl) (by simp) ?_
  refine Reg.cons_op (i := 4) rfl (fun K hK => ?_) ?_
  ·
   skip
   go_simp
   have S3 := Lib.hid (show Sl.Sep w _ [_, _, Sv.ownV 73 2 (some ⟨w1.heap.size, 0, none⟩) 0 0 (([] : List X_IndexDef).flatMap cl_IndexDef)] from Sv.push_own S2.out ((Below.refl _ _).alloc (Nat.le_refl _) _) (OwnV.madeAt w1 73 2 0 w1.heap.size #[] rfl (Nat.le_refl _) rfl (by decide)))
   clear S2
   obtain ⟨g1, hg⟩ : ∃ g', g' = w1.heap.size := ⟨_, rfl⟩
   rw [← hg] at S3 ⊢
   clear hg
   generalize w1.alloc (.cells #[] 73) = w2 at S3 ⊢
   refine hK.out _ _ (Bag.cs4 S3.out 0 rfl) (fun hS => ?_)
   clear hK K
   try simp only [zp0, zp1, zp2, zp3, zp4]
   refine wpAnyH_ready (rs := [7, 9]) (by kernel_rfl) (by simp) ?_
   refine Reg.cons_op (i := 7) rfl (fun K hK => ?_) ?_
   ·
    skip
    refine Sv.step_append_s S3.out 2 rfl rfl _ _ 31 (by rfl) iX (.agg #[.string ⟨#[]⟩, .string ⟨#[]⟩]) 32 Tryz.underlying31 HIX.out.1 HIX.out.2.1 HIX.out.2.2.1 HIX.out.2.2.2 rfl (by omega) _ (by rfl) rfl _ _ M _ _ (us.flatMap cl_IndexDef) (by rfl) rfl (HU.out _ S3.out.old) HUL.out (one_flat cl_IndexDef_one _) (by unfold maxLen; omega) (by omega) ?_
    intro a2' c2' w3 hA
    have S4 := Lib.hid (show Sl.Sep w _ [_, _, Sv.ownV 73 2 a2' c2' (0 + M) (([] : List X_IndexDef).flatMap cl_IndexDef ++ (us.flatMap cl_IndexDef))] from hA)
    clear S3
    clear hA
    have S5 := Lib.hid (show Sl.Sep w _ [_, _, Sv.ownV 73 2 a2' c2' M (us.flatMap cl_IndexDef)] from (by have h := S4.out; rw [Nat.zero_add] at h; exact h))
    clear S4
    refine hK.out _ _ (Bag.cs4 S5.out 0 rfl) (fun hS => ?_)
    clear hK K
    try simp only [zp0, zp1, zp2, zp3, zp4]
    refine tk 8 rfl ?_
    try simp only [zp0, zp1, zp2, zp3, zp4]
    refine Reg.one_op (i := 9) rfl (by kernel_rfl) (fun K hK => ?_)
    go_simp
    have S6 := Lib.hid (show Sl.Sep w _ [_, _, _, _] from L4.push_box S5.out 33 #[.string ⟨#[]⟩, .int .i64 0, .slice none 0 0, .slice none 0 0] w3.heap.size rfl)
    clear S5
    obtain ⟨g3, hg⟩ : ∃ g', g' = w3.heap.size := ⟨_, rfl⟩
    rw [← hg] at S6 ⊢
    clear hg
    generalize w3.alloc (.cells #[.string ⟨#[]⟩, .int .i64 0, .slice none 0 0, .slice none 0 0] 33) = w4 at S6 ⊢
    refine hK.out _ _ (Bag.cs4 S6.out 0 rfl) (fun hS => ?_)
    clear hK K
    try simp only [zp0, zp1, zp2, zp3, zp4]
    refine Reg.one_op (i := 10) rfl (by kernel_rfl) (fun K hK => ?_)
    obtain ⟨f0, f1, f2, f3⟩ := Bag.cs4 S6.out 3 rfl
    obtain ⟨z0, z1, z2, z3⟩ := Bag.fs4 S6.out 3 rfl
    go_simp
    clear f0 f1 f2 f3 z0 z1 z2 z3
    have S7 := Lib.hid (show Sl.Sep w _ [_, _, _, L4.boxR g3 33 #[.string name, .int .i64 ver, .slice none 0 0, .slice a2' M c2']] from L5.put_box5 (L5.put_box5 (L5.put_box5 (L5.put_box5 (S6.out) 3 rfl 0 (.string name)) 3 rfl 1 (.int .i64 ver)) 3 rfl 2 (.slice none 0 0)) 3 rfl 3 (.slice a2' M c2'))
    clear S6
    refine hK.out _ _ (Bag.cs4 S7.out 0 rfl) (fun hS => ?_)
    clear hK K
    try simp only [zp0, zp1, zp2, zp3, zp4]
    refine wpAnyH_done (by kernel_rfl) ?_ _
    obtain ⟨f0, f1, f2, f3⟩ := Bag.cs4 S7.out 0 rfl
    obtain ⟨f4, f5, f6, f7⟩ := Bag.cs4 S7.out 1 rfl
    obtain ⟨f8, f9, f10, f11⟩ := Bag.cs4 S7.out 3 rfl
    clear f0 f1 f2 f3 f4 f5 f6 f7 f8 f9 f10 f11
    have S8 := Lib.hid (show Sl.Sep w _ [_, _, _, _] from Bag.take S7.out [0, 1, 2, 3] (by rfl) (by decide))
    clear S7
    go_wp2_with fail
    go_meet
    case rel => exact ⟨g3, a2', c2', rfl, S8.out⟩
   refine Reg.cons_op (i := 9) rfl (fun K hK => ?_) ?_
   ·
    skip
    go_simp
    have S4 := Lib.hid (show Sl.Sep w _ [_, _, _, _] from L4.push_box S3.out 33 #[.string ⟨#[]⟩, .int .i64 0, .slice none 0 0, .slice none 0 0] w2.heap.size rfl)
    clear S3
    obtain ⟨g2, hg⟩ : ∃ g', g' = w2.heap.size := ⟨_, rfl⟩
    rw [← hg] at S4 ⊢
    clear hg
    generalize w2.alloc (.cells #[.string ⟨#[]⟩, .int .i64 0, .slice none 0 0, .slice none 0 0] 33) = w3 at S4 ⊢
    refine hK.out _ _ (Bag.cs4 S4.out 0 rfl) (fun hS => ?_)
    clear hK K
    try simp only [zp0, zp1, zp2, zp3, zp4]
    refine Reg.one_op (i := 7) rfl (by kernel_rfl) (fun K hK => ?_)
    refine Sv.step_append_s S4.out 2 rfl rfl _ _ 31 (by rfl) iX (.agg #[.string ⟨#[]⟩, .string ⟨#[]⟩]) 32 Tryz.underlying31 HIX.out.1 HIX.out.2.1 HIX.out.2.2.1 HIX.out.2.2.2 rfl (by omega) _ (by rfl) rfl _ _ M _ _ (us.flatMap cl_IndexDef) (by rfl) rfl (HU.out _ S4.out.old) HUL.out (one_flat cl_IndexDef_one _) (by unfold maxLen; omega) (by omega) ?_
    intro a3' c3' w4 hA
    have S5 := Lib.hid (show Sl.Sep w _ [_, _, Sv.ownV 73 2 a3' c3' (0 + M) (([] : List X_IndexDef).flatMap cl_IndexDef ++ (us.flatMap cl_IndexDef)), L4.boxR g2 33 #[.string ⟨#[]⟩, .int .i64 0, .slice none 0 0, .slice none 0 0]] from hA)
    clear S4
    clear hA
    have S6 := Lib.hid (show Sl.Sep w _ [_, _, Sv.ownV 73 2 a3' c3' M (us.flatMap cl_IndexDef), _] from (by have h := S5.out; rw [Nat.zero_add] at h; exact h))
    clear S5
    refine hK.out _ _ (Bag.cs4 S6.out 0 rfl) (fun hS => ?_)
    clear hK K
    try simp only [zp0, zp1, zp2, zp3, zp4]
    refine tk 8 rfl ?_
    try simp only [zp0, zp1, zp2, zp3, zp4]
    refine Reg.one_op (i := 10) rfl (by kernel_rfl) (fun K hK => ?_)
    obtain ⟨f0, f1, f2, f3⟩ := Bag.cs4 S6.out 3 rfl
    obtain ⟨z0, z1, z2, z3⟩ := Bag.fs4 S6.out 3 rfl
    go_simp
    clear f0 f1 f2 f3 z0 z1 z2 z3
    have S7 := Lib.hid (show Sl.Sep w _ [_, _, _, L4.boxR g2 33 #[.string name, .int .i64 ver, .slice none 0 0, .slice a3' M c3']] from L5.put_box5 (L5.put_box5 (L5.put_box5 (L5.put_box5 (S6.out) 3 rfl 0 (.string name)) 3 rfl 1 (.int .i64 ver)) 3 rfl 2 (.slice none 0 0)) 3 rfl 3 (.slice a3' M c3'))
    clear S6
    refine hK.out _ _ (Bag.cs4 S7.out 0 rfl) (fun hS => ?_)
    clear hK K
    try simp only [zp0, zp1, zp2, zp3, zp4]
    refine wpAnyH_done (by kernel_rfl) ?_ _
    obtain ⟨f0, f1, f2, f3⟩ := Bag.cs4 S7.out 0 rfl
    obtain ⟨f4, f5, f6, f7⟩ := Bag.cs4 S7.out 1 rfl
    obtain ⟨f8, f9, f10, f11⟩ := Bag.cs4 S7.out 3 rfl
    clear f0 f1 f2 f3 f4 f5 f6 f7 f8 f9 f10 f11
    have S8 := Lib.hid (show Sl.Sep w _ [_, _, _, _] from Bag.take S7.out [0, 1, 2, 3] (by rfl) (by decide))
    clear S7
    go_wp2_with fail
    go_meet
    case rel => exact ⟨g2, a3', c3', rfl, S8.out⟩
   exact AllReadyH.nil
  refine Reg.cons_op (i := 9) rfl (fun K hK => ?_) ?_
  ·
   skip
   go_simp
   have S3 := Lib.hid (show Sl.Sep w _ [_, _, _] from L4.push_box S2.out 33 #[.string ⟨#[]⟩, .int .i64 0, .slice none 0 0, .slice none 0 0] w1.heap.size rfl)
   clear S2
   obtain ⟨g1, hg⟩ : ∃ g', g' = w1.heap.size := ⟨_, rfl⟩
   rw [← hg] at S3 ⊢
   clear hg
   generalize w1.alloc (.cells #[.string ⟨#[]⟩, .int .i64 0, .slice none 0 0, .slice none 0 0] 33) = w2 at S3 ⊢
   refine hK.out _ _ (Bag.cs4 S3.out 0 rfl) (fun hS => ?_)
   clear hK K
   try simp only [zp0, zp1, zp2, zp3, zp4]
   refine Reg.one_op (i := 4) rfl (by kernel_rfl) (fun K hK => ?_)
   go_simp
   have S4 := Lib.hid (show Sl.Sep w _ [_, _, L4.boxR g1 33 #[.string ⟨#[]⟩, .int .i64 0, .slice none 0 0, .slice none 0 0], Sv.ownV 73 2 (some ⟨w2.heap.size, 0, none⟩) 0 0 (([] : List X_IndexDef).flatMap cl_IndexDef)] from Sv.push_own S3.out ((Below.refl _ _).alloc (Nat.le_refl _) _) (OwnV.madeAt w2 73 2 0 w2.heap.size #[] rfl (Nat.le_refl _) rfl (by decide)))
   clear S3
   obtain ⟨g2, hg⟩ : ∃ g', g' = w2.heap.size := ⟨_, rfl⟩
   rw [← hg] at S4 ⊢
   clear hg
   generalize w2.alloc (.cells #[] 73) = w3 at S4 ⊢
   refine hK.out _ _ (Bag.cs4 S4.out 0 rfl) (fun hS => ?_)
   clear hK K
   try simp only [zp0, zp1, zp2, zp3, zp4]
   refine Reg.one_op (i := 7) rfl (by kernel_rfl) (fun K hK => ?_)
   refine Sv.step_append_s S4.out 3 rfl rfl _ _ 31 (by rfl) iX (.agg #[.string ⟨#[]⟩, .string ⟨#[]⟩]) 32 Tryz.underlying31 HIX.out.1 HIX.out.2.1 HIX.out.2.2.1 HIX.out.2.2.2 rfl (by omega) _ (by rfl) rfl _ _ M _ _ (us.flatMap cl_IndexDef) (by rfl) rfl (HU.out _ S4.out.old) HUL.out (one_flat cl_IndexDef_one _) (by unfold maxLen; omega) (by omega) ?_
   intro a3' c3' w4 hA
   have S5 := Lib.hid (show Sl.Sep w _ [_, _, _, Sv.ownV 73 2 a3' c3' (0 + M) (([] : List X_IndexDef).flatMap cl_IndexDef ++ (us.flatMap cl_IndexDef))] from hA)
   clear S4
   clear hA
   have S6 := Lib.hid (show Sl.Sep w _ [_, _, _, Sv.ownV 73 2 a3' c3' M (us.flatMap cl_IndexDef)] from (by have h := S5.out; rw [Nat.zero_add] at h; exact h))
   clear S5
   refine hK.out _ _ (Bag.cs4 S6.out 0 rfl) (fun hS => ?_)
   clear hK K
   try simp only [zp0, zp1, zp2, zp3, zp4]
   refine tk 8 rfl ?_
   try simp only [zp0, zp1, zp2, zp3, zp4]
   refine Reg.one_op (i := 10) rfl (by kernel_rfl) (fun K hK => ?_)
   obtain ⟨f0, f1, f2, f3⟩ := Bag.cs4 S6.out 2 rfl
   obtain ⟨z0, z1, z2, z3⟩ := Bag.fs4 S6.out 2 rfl
   go_simp
   clear f0 f1 f2 f3 z0 z1 z2 z3
   have S7 := Lib.hid (show Sl.Sep w _ [_, _, L4.boxR g1 33 #[.string name, .int .i64 ver, .slice none 0 0, .slice a3' M c3'], _] from L5.put_box5 (L5.put_box5 (L5.put_box5 (L5.put_box5 (S6.out) 2 rfl 0 (.string name)) 2 rfl 1 (.int .i64 ver)) 2 rfl 2 (.slice none 0 0)) 2 rfl 3 (.slice a3' M c3'))
   clear S6
   refine hK.out _ _ (Bag.cs4 S7.out 0 rfl) (fun hS => ?_)
   clear hK K
   try simp only [zp0, zp1, zp2, zp3, zp4]
   refine wpAnyH_done (by kernel_rfl) ?_ _
   obtain ⟨f0, f1, f2, f3⟩ := Bag.cs4 S7.out 0 rfl
   obtain ⟨f4, f5, f6, f7⟩ := Bag.cs4 S7.out 1 rfl
   obtain ⟨f8, f9, f10, f11⟩ := Bag.cs4 S7.out 2 rfl
   clear f0 f1 f2 f3 f4 f5 f6 f7 f8 f9 f10 f11
   have S8 := Lib.hid (show Sl.Sep w _ [_, _, _, _] from Bag.take S7.out [0, 1, 3, 2] (by rfl) (by decide))
   clear S7
   go_wp2_with fail
   go_meet
   case rel => exact ⟨g1, a3', c3', rfl, S8.out⟩
  exact AllReadyH.nil
 case rest =>
  obtain ⟨g3, A, C, rfl, hq⟩ := hcut
  obtain ⟨ww, hww, hSS⟩ : ∃ u, u = _ ∧ Sl.Sep w u [L4.boxR w.heap.size 33 #[.string name, .int .i64 ver, .slice sa N sc, .slice ua M uc], L4.boxR (w.heap.size + 1) 33 #[.string ⟨#[]⟩, .int .i64 0, .slice none 0 0, .slice none 0 0], Sv.ownV 73 2 A C M (us.flatMap cl_IndexDef), L4.boxR g3 33 #[.string name, .int .i64 ver, .slice none 0 0, .slice A M C]] := ⟨_, rfl, hq.out⟩
  subst hww
  have S61 := Lib.hid hSS
  clear hSS hq S1
  have S62 := Lib.hid (show Sl.Sep w _ [L4.boxR w.heap.size 33 #[.string name, .int .i64 ver, .slice sa N sc, .slice ua M uc], L4.boxR (w.heap.size + 1) 33 #[.string ⟨#[]⟩, .int .i64 0, .slice none 0 0, .slice none 0 0], L4.boxR g3 33 #[.string name, .int .i64 ver, .slice none 0 0, .slice A M C], Sv.ownV 73 2 A C M (us.flatMap cl_IndexDef)] from Bag.take S61.out [0, 1, 3, 2] (by rfl) (by decide))
  clear S61
  have S63 := Lib.hid (show Sl.Sep w _ [_, _, _, _, Sv.ownV 70 3 none 0 0 (([] : List LS).flatMap cl_Store)] from Sv.push_own S62.out (Below.refl _ _) (OwnV.nil _ _ _ _))
  clear S62
  have S64 := Lib.hid (show Sl.Sep w _ [_, _, _, _, _, Bag.bag (rws_Store [])] from Bag.push_bag S63.out (Below.refl _ _) (Bag.BagOwn.nil _ _))
  clear S63
  go_wp2_with fail
  go_loopw [4] (fun i wr => ∃ (k m : Nat) (A2 : Option Addr) (C2 : Nat) (ys : List LS), k ≤ N ∧ m ≤ k ∧ i = .int .i64 k ∧ Hid ((coS_Store ys = (coS_Store ss).take k ∧ ys.length = m) ∧ Sl.Sep w wr [L4.boxR w.heap.size 33 #[.string name, .int .i64 ver, .slice sa N sc, .slice ua M uc], L4.boxR (w.heap.size + 1) 33 #[.string ⟨#[]⟩, .int .i64 0, .slice none 0 0, .slice none 0 0], L4.boxR g3 33 #[.string name, .int .i64 ver, .slice A2 m C2, .slice A M C], Sv.ownV 73 2 A C M (us.flatMap cl_IndexDef), Sv.ownV 70 3 A2 C2 m (ys.flatMap cl_Store), Bag.bag (rws_Store ys)])) (fun i _ => N - (intOf i).toNat)
  case atStart => exact ⟨0, 0, none, 0, [], Nat.zero_le _, Nat.le_refl _, rfl, And.intro ⟨rfl, rfl⟩ S64.out⟩
  case round =>
   obtain ⟨k, m, A2, C2, ys, hk, hmk, rfl, hrel⟩ := hrel
   have HC := Lib.hid hrel.out.1
   have S65 := Lib.hid hrel.out.2
   clear hrel S64
   by_cases hlt : (k : Int) < (N : Int)
   ·
    skip
    have hkl : k < ss.length := by have := HN.out; omega
    obtain ⟨x, hx⟩ : ∃ x, ss[k]? = some x := ⟨_, List.getElem?_eq_getElem hkl⟩
    obtain ⟨sad, e'⟩ := el_some cl_Store_len (by decide) (HR.out _ S65.out.old) hkl
    subst e'
    have HKx := Lib.hid (fun w' (h : Below w.heap.size w w') => el3 cl_Store_len (HR.out _ h) hx rfl)
    have HRx := Lib.hid (fun w' (h : Below w.heap.size w w') => rd_store (HX.out w' h) hx)
    have HFx := Lib.hid (fit_store HFD.out.stores hx)
    have HCx := Lib.hid (coS_at hx)
    clear hx
    have HCI := Lib.hid (fun w' (h : Below w.heap.size w w') => l6Copy_any x HFx.out w' (HRx.out w' h))
    dsimp only [LS.v, LS.cells] at HCI
    have HT := Lib.hid (take_next HCx.out)
    obtain ⟨f0, f1, f2, f3⟩ := Bag.cs4 S65.out 0 rfl
    obtain ⟨f4, f5, f6, f7⟩ := Bag.cs4 S65.out 1 rfl
    obtain ⟨f8, f9, f10, f11⟩ := Bag.cs4 S65.out 2 rfl
    obtain ⟨f12, f13, f14⟩ := HKx.out _ S65.out.old
    go_upto_region 5 with fail
    clear f0 f1 f2 f3 f4 f5 f6 f7 f8 f9 f10 f11 f12 f13 f14
    refine Reg.wp_region_late (fun w' => (w'.cell? ⟨w.heap.size, 0, none⟩ = some (.string name) ∧ w'.cell? ⟨w.heap.size, 1, none⟩ = some (.int .i64 ver) ∧ w'.cell? ⟨w.heap.size, 2, none⟩ = some (.slice (some sad) N sc) ∧ w'.cell? ⟨w.heap.size, 3, none⟩ = some (.slice ua M uc)) ∧ (w'.cell? (sad.add (k * 3)) = some (.string x.name) ∧ w'.cell? (⟨(sad.add (k * 3)).block, (sad.add (k * 3)).off + 1, none⟩) = some (.slice x.a x.xs.length x.c) ∧ w'.cell? (⟨(sad.add (k * 3)).block, (sad.add (k * 3)).off + 2, none⟩) = some (.int .i64 x.auto))) (fun w' => (w'.cell? ⟨g3, 0, none⟩ = some (.string name) ∧ w'.cell? ⟨g3, 1, none⟩ = some (.int .i64 ver) ∧ w'.cell? ⟨g3, 2, none⟩ = some (.slice A2 m C2) ∧ w'.cell? ⟨g3, 3, none⟩ = some (.slice A M C))) 11 (by kernel_rfl) ⟨Bag.cs4 (Bag.drew1 S65.out) 0 rfl, HKx.out _ (Bag.drew1 S65.out).old⟩ (Bag.cs4 (Bag.drew1 S65.out) 2 rfl) (fun hS hL => ?_)
    have S66 := Lib.hid (Bag.drew1 S65.out)
    clear S65
    generalize World.drew _ = w1 at hS hL S66 ⊢
    refine Reg.early_op (i := 0) (v := ?_) rfl (by kernel_rfl) (by kernel_rfl) (by kernel_rfl) rfl (by kernel_rfl) (by kernel_rfl) (fun _ _ _ h => h) (by rfl) ?_ hS hL ?_
    rotate_left
    ·
     (intro w hSw hSv; (try dsimp only at hSw); (try dsimp only at hSv); go_simp; try with_reducible rfl)
    try simp only [zp0, zp1, zp2, zp3, zp4]
    refine Reg.early_op (i := 1) (v := ?_) rfl (by kernel_rfl) (by kernel_rfl) (by kernel_rfl) rfl (by kernel_rfl) (by kernel_rfl) (fun _ _ _ h => h) (by rfl) ?_ hS hL ?_
    rotate_left
    ·
     (intro w hSw hSv; (try dsimp only at hSw); (try dsimp only at hSv); go_simp; try with_reducible rfl)
    try simp only [zp0, zp1, zp2, zp3, zp4]
    refine Reg.early_op (i := 2) (v := ?_) rfl (by kernel_rfl) (by kernel_rfl) (by kernel_rfl) rfl (by kernel_rfl) (by kernel_rfl) (fun _ _ _ h => h) (by rfl) ?_ hS hL ?_
    rotate_left
    ·
     (intro w hSw hSv; (try dsimp only at hSw); (try dsimp only at hSv); go_simp; try with_reducible rfl)
    try simp only [zp0, zp1, zp2, zp3, zp4]
    refine Reg.early_op (i := 3) (v := ?_) rfl (by kernel_rfl) (by kernel_rfl) (by kernel_rfl) rfl (by kernel_rfl) (by kernel_rfl) (fun _ _ _ h => h) (by rfl) ?_ hS hL ?_
    rotate_left
    ·
     (intro w hSw hSv; (try dsimp only at hSw); (try dsimp only at hSv); go_simp; try with_reducible rfl)
    try simp only [zp0, zp1, zp2, zp3, zp4]
    refine Reg.early_op (i := 4) (v := ?_) rfl (by kernel_rfl) (by kernel_rfl) (by kernel_rfl) rfl (by kernel_rfl) (by kernel_rfl) (fun _ _ _ h => h) (by rfl) ?_ hS hL ?_
    rotate_left
    ·
     (intro w hSw hSv; (try dsimp only at hSw); (try dsimp only at hSv); go_simp; try with_reducible rfl)
    try simp only [zp0, zp1, zp2, zp3, zp4]
    refine Reg.early_op (i := 5) (v := ?_) rfl (by kernel_rfl) (by kernel_rfl) (by kernel_rfl) rfl (by kernel_rfl) (by kernel_rfl) (fun _ _ _ h => h) (by rfl) ?_ hS hL ?_
    rotate_left
    ·
     (intro w hSw hSv; (try dsimp only at hSw); (try dsimp only at hSv); go_simp; try with_reducible rfl)
    try simp only [zp0, zp1, zp2, zp3, zp4]
    refine Reg.early_op (i := 6) (v := ?_) rfl (by kernel_rfl) (by kernel_rfl) (by kernel_rfl) rfl (by kernel_rfl) (by kernel_rfl) (fun _ _ _ h => h) (by rfl) ?_ hS hL ?_
    rotate_left
    ·
     (intro w hSw hSv; (try dsimp only at hSw); (try dsimp only at hSv); go_simp; try with_reducible rfl)
    try simp only [zp0, zp1, zp2, zp3, zp4]
    refine Reg.only_op (i := 7) rfl (by kernel_rfl) (fun K hK => ?_)
    go_simp
    go_at_call 53
    refine (HCI.out _ S66.out.old).mono ?_
    rintro e w2 ⟨y, rfl, hcy, ho, hb⟩
    have S67 := Lib.hid (show Sl.Sep w _ [_, _, _, _, _, _, Bag.bag (LS.rows y)] from Bag.push_bag S66.out hb ho)
    clear S66
    clear hb ho
    have HCY := Lib.hid hcy
    clear hcy
    dsimp only [LS.v, LS.cells]
    go_wp2_with fail
    clear hL
    refine hK.out _ _ ⟨Bag.cs4 S67.out 0 rfl, HKx.out _ S67.out.old⟩ (Bag.cs4 S67.out 2 rfl) (fun hS hL => ?_)
    clear hK K
    try simp only [zp0, zp1, zp2, zp3, zp4]
    refine Reg.only_op (i := 8) rfl (by kernel_rfl) (fun K hK => ?_)
    go_simp
    have S68 := Lib.hid (show Sl.Sep w _ [_, _, _, _, _, _, _, Sv.ownV 70 3 (some ⟨w2.heap.size, 0, none⟩) 1 1 ([y].flatMap cl_Store)] from Sv.push_own S67.out ((Below.refl _ _).alloc (Nat.le_refl _) _) (OwnV.madeAt w2 70 3 1 w2.heap.size #[.string y.name, .slice y.a y.xs.length y.c, .int .i64 y.auto] rfl (Nat.le_refl _) rfl (by decide)))
    clear S67
    obtain ⟨g1, hg⟩ : ∃ g', g' = w2.heap.size := ⟨_, rfl⟩
    rw [← hg] at S68 ⊢
    clear hg
    generalize w2.alloc (.cells #[.string y.name, .slice y.a y.xs.length y.c, .int .i64 y.auto] 70) = w3 at S68 ⊢
    clear hL
    refine hK.out _ _ ⟨Bag.cs4 S68.out 0 rfl, HKx.out _ S68.out.old⟩ (Bag.cs4 S68.out 2 rfl) (fun hS hL => ?_)
    clear hK K
    try simp only [zp0, zp1, zp2, zp3, zp4]
    refine Reg.only_op (i := 9) rfl (by kernel_rfl) (fun K hK => ?_)
    refine Sv.step_append_s S68.out 4 rfl rfl _ _ 30 (by rfl) iS (.agg #[.string ⟨#[]⟩, .slice none 0 0, .int .i64 0]) 48 Tryz.underlying30 HIS.out.1 HIS.out.2.1 HIS.out.2.2.1 HIS.out.2.2.2 rfl (by omega) _ (by rfl) rfl _ _ 1 _ _ ([y].flatMap cl_Store) (by rfl) rfl ((Sv.own_at S68.out 7 rfl).reads) rfl (one_flat cl_Store_one _) (by unfold maxLen; omega) (by omega) ?_
    intro a2' c2' w4 hA
    have S69 := Lib.hid (show Sl.Sep w _ [_, _, _, _, Sv.ownV 70 3 a2' c2' (m + 1) (ys.flatMap cl_Store ++ ([y].flatMap cl_Store)), _, _, Sv.ownV 70 3 (some ⟨g1, 0, none⟩) 1 1 ([y].flatMap cl_Store)] from hA)
    clear S68
    clear hA
    clear hL
    refine hK.out _ _ ⟨Bag.cs4 S69.out 0 rfl, HKx.out _ S69.out.old⟩ (Bag.cs4 S69.out 2 rfl) (fun hS hL => ?_)
    clear hK K
    try simp only [zp0, zp1, zp2, zp3, zp4]
    refine Reg.early_op (i := 10) (v := ?_) rfl (by kernel_rfl) (by kernel_rfl) (by kernel_rfl) rfl (by kernel_rfl) (by kernel_rfl) (fun _ _ _ h => h) (by rfl) ?_ hS hL ?_
    rotate_left
    ·
     (intro w hSw hSv; (try dsimp only at hSw); (try dsimp only at hSv); go_simp; try with_reducible rfl)
    try simp only [zp0, zp1, zp2, zp3, zp4]
    refine Reg.late_op (i := 11) rfl (by kernel_rfl) rfl (fun K hK => ?_)
    obtain ⟨f0, f1, f2, f3⟩ := Bag.cs4 S69.out 2 rfl
    obtain ⟨z0, z1, z2, z3⟩ := Bag.fs4 S69.out 2 rfl
    go_simp
    clear f0 f1 f2 f3 z0 z1 z2 z3
    have S70 := Lib.hid (show Sl.Sep w _ [_, _, L4.boxR g3 33 #[.string name, .int .i64 ver, .slice a2' (m + 1) c2', .slice A M C], _, _, _, _, _] from L5.put_box5 (S69.out) 2 rfl 2 (.slice a2' (m + 1) c2'))
    clear S69
    refine hK.out _ _ ⟨Bag.cs4 S70.out 0 rfl, HKx.out _ S70.out.old⟩ (fun hS => ?_)
    clear hL
    clear hK K
    try simp only [zp0, zp1, zp2, zp3, zp4]
    refine Reg.anyL_done (by kernel_rfl) ?_ _
    obtain ⟨f0, f1, f2, f3⟩ := Bag.cs4 S70.out 0 rfl
    obtain ⟨f4, f5, f6, f7⟩ := Bag.cs4 S70.out 1 rfl
    obtain ⟨f8, f9, f10, f11⟩ := Bag.cs4 S70.out 2 rfl
    obtain ⟨f12, f13, f14⟩ := HKx.out _ S70.out.old
    clear f0 f1 f2 f3 f4 f5 f6 f7 f8 f9 f10 f11 f12 f13 f14
    have S71 := Lib.hid (show Sl.Sep w _ [_, _, _, _, _, Bag.bag (rws_Store ys ++ (LS.rows y)), Bag.bag ([]), _] from Bag.bag_join S70.out 5 6 (by decide) rfl rfl)
    clear S70
    have S72 := Lib.hid (show Sl.Sep w _ [_, _, _, _, _, _] from Bag.take S71.out [0, 1, 2, 3, 4, 5] (by rfl) (by decide))
    clear S71
    obtain ⟨f0, f1, f2, f3⟩ := Bag.cs4 S72.out 0 rfl
    obtain ⟨f4, f5, f6, f7⟩ := Bag.cs4 S72.out 1 rfl
    obtain ⟨f8, f9, f10, f11⟩ := Bag.cs4 S72.out 2 rfl
    obtain ⟨f12, f13, f14⟩ := HKx.out _ S72.out.old
    go_wp2_with fail
    go_roundw
    case rel =>
     refine ⟨k + 1, m + 1, a2', c2', ys ++ [y], by omega, by omega, by go_num, And.intro ⟨?_, ?_⟩ ?_⟩
     ·
      rw [HT.out, ← HC.out.1, coS_Store_eq, coS_Store_eq, List.map_append, ← HCY.out]; rfl
     ·
      rw [List.length_append, HC.out.2]; rfl
     ·
      rw [List.flatMap_append, rws_Store_app, show rws_Store [y] = LS.rows y from by rw [rws_Store_eq]; simp; rfl]; exact S72.out
    case measure => simp [intOf]; omega
   ·
    skip
    obtain rfl : k = N := by omega
    obtain ⟨f0, f1, f2, f3⟩ := Bag.cs4 S65.out 0 rfl
    obtain ⟨f4, f5, f6, f7⟩ := Bag.cs4 S65.out 1 rfl
    obtain ⟨f8, f9, f10, f11⟩ := Bag.cs4 S65.out 2 rfl
    obtain ⟨z0, z1, z2, z3⟩ := Bag.fs4 S65.out 1 rfl
    go_wp2_with fail
    clear f0 f1 f2 f3 f4 f5 f6 f7 f8 f9 f10 f11 z0 z1 z2 z3
    have S66 := Lib.hid (show Sl.Sep w _ [L4.boxR w.heap.size 33 #[.string name, .int .i64 ver, .slice sa k sc, .slice ua M uc], L4.boxR (w.heap.size + 1) 33 #[.string name, .int .i64 ver, .slice A2 m C2, .slice A M C], L4.boxR g3 33 #[.string name, .int .i64 ver, .slice A2 m C2, .slice A M C], Sv.ownV 73 2 A C M (us.flatMap cl_IndexDef), Sv.ownV 70 3 A2 C2 m (ys.flatMap cl_Store), Bag.bag (rws_Store ys)] from L5.put_box5 (L5.put_box5 (L5.put_box5 (L5.put_box5 (S65.out) 1 rfl 0 (.string name)) 1 rfl 1 (.int .i64 ver)) 1 rfl 2 (.slice A2 m C2)) 1 rfl 3 (.slice A M C))
    clear S65
    obtain ⟨f0, f1, f2, f3⟩ := Bag.cs4 S66.out 1 rfl
    refine bodyPost_ret (v := .agg #[.string name, .int .i64 ver, .slice A2 m C2, .slice A M C]) (by simp [results, Tryz.results30, go_sem, *]) rfl ?_
    clear f0 f1 f2 f3
    obtain ⟨hc1, hc2⟩ := HC.out
    have hcon : coS_Store ys = coS_Store ss := by rw [hc1, List.take_of_length_le (by have := HN.out; rw [coS_len]; omega)]
    have S90 := Lib.hid (Bag.bag_of_one S66.out 4 (r := row_Store A2 C2 ys) (by unfold RowS.res row_Store; dsimp only; rw [hc2]; rfl))
    have S91 := Lib.hid (Bag.bag_of_one S90.out 3 (r := row_IndexDef A C us) (by unfold RowS.res row_IndexDef; dsimp only; rw [HM.out]; rfl))
    have S92 := Lib.hid (Bag.bag_join S91.out 4 5 (by decide) rfl rfl)
    have S93 := Lib.hid (Bag.bag_join S92.out 4 3 (by decide) rfl rfl)
    have hb := Bag.bag_from S93.out 4 rfl
    have hm := HM.out
    subst hc2
    subst hm
    exact ⟨⟨name, ver, A2, C2, ys, A, C, us⟩, rfl, by unfold co_Database; dsimp only; rw [hcon]; rfl, hb, S93.out.old⟩
set_option maxHeartbeats 8000000 in
theorem l8Drop_any (z : Y_Database) (n : ByteArray) (hf : FitD (co_Database z)) (w : World) (hr : RowsRd w w.heap.size (rw_Database z)) :
  Calls Tryz.prog 33 #[vv_Database z, .string n] w (GaveD w (dropD (co_Database z) n)) := by
 obtain ⟨iS, hi1, hi2, hi3, hi4⟩ := infoL_Store
 have HIS := Lib.hid (And.intro hi1 (And.intro hi2 (And.intro hi3 hi4)))
 clear hi1 hi2 hi3 hi4
 obtain ⟨iX, hi1, hi2, hi3, hi4⟩ := infoL_IndexDef
 have HIX := Lib.hid (And.intro hi1 (And.intro hi2 (And.intro hi3 hi4)))
 clear hi1 hi2 hi3 hi4
 have HR : Hid (∀ w' (h : Below w.heap.size w w'), Reads w' w.heap.size z.f_Stores_a (z.f_Stores.flatMap cl_Store)) := Lib.hid (fun w' h => (rdS hr).below h)
 have HX : Hid (∀ w' (h : Below w.heap.size w w'), RowsRd w' w'.heap.size (rws_Store z.f_Stores)) := Lib.hid (fun w' h => ((rdX hr).below h).more h.size)
 have HU : Hid (∀ w' (h : Below w.heap.size w w'), Reads w' w.heap.size z.f_Unique_a (z.f_Unique.flatMap cl_IndexDef)) := Lib.hid (fun w' h => (rdU hr).below h)
 have HFD := Lib.hid hf
 have HFDl : z.f_Stores.length ≤ 1048576 := by have h := hf.len; rwa [co_len] at h
 have HFDm : z.f_Unique.length ≤ 1048576 := hf.many
 clear hf hr
 obtain ⟨name, ver, sa, sc, ss, ua, uc, us⟩ := z
 dsimp only [co_Database] at HR HX HU HFD HFDl HFDm
 try unfold vv_Database
 try unfold co_Database
 try dsimp only
 try rw [show coS_IndexDef us = us from rfl]
 rw [show coS_IndexDef us = us from rfl] at HFD
 obtain ⟨N, hN⟩ : ∃ n, n = ss.length := ⟨_, rfl⟩
 obtain ⟨M, hM⟩ : ∃ n, n = us.length := ⟨_, rfl⟩
 rw [← hN] at HFDl ⊢
 rw [← hM] at HFDm ⊢
 have HFDl' : (N : Int) ≤ 1048576 := by omega
 have HFDm' : (M : Int) ≤ 1048576 := by omega
 have HN := Lib.hid hN
 have HM := Lib.hid hM
 clear hN hM
 unfold dropD
 dsimp only
 have S1 := Lib.hid (show Sl.Sep w _ [_, _] from L4.push_box (L4.push_box (Sl.Sep.start w) 33 #[.string name, .int .i64 ver, .slice sa N sc, .slice ua M uc] (w.heap.size) (by simp)) 33 #[.string ⟨#[]⟩, .int .i64 0, .slice none 0 0, .slice none 0 0] (w.heap.size + 1) (by simp))
 obtain ⟨wa, hwa⟩ : ∃ w_, w_ = ((w.alloc (.cells #[.string name, .int .i64 ver, .slice sa N sc, .slice ua M uc] 33)).alloc (.cells #[.string ⟨#[]⟩, .int .i64 0, .slice none 0 0, .slice none 0 0] 33)) := ⟨_, rfl⟩
 rw [← hwa] at S1
 go_enter Tryz.func33, Tryz.ntmps33
 go_upto_region 1 with fail
 rw [← hwa]
 clear hwa
 obtain ⟨f0, f1, f2, f3⟩ := Bag.cs4 S1.out 0 rfl
 obtain ⟨f4, f5, f6, f7⟩ := Bag.cs4 S1.out 1 rfl
 go_upto_region 2 with fail
 clear f0 f1 f2 f3 f4 f5 f6 f7
 have S2 := Lib.hid (show Sl.Sep w _ [_, _, _] from L4.push_box S1.out 33 #[.string name, .int .i64 ver, .slice none 0 0, .slice none 0 0] wa.heap.size rfl)
 clear S1
 obtain ⟨g1, hg⟩ : ∃ g', g' = wa.heap.size := ⟨_, rfl⟩
 rw [← hg] at S2 ⊢
 clear hg
 generalize wa.alloc (.cells #[.string name, .int .i64 ver, .slice none 0 0, .slice none 0 0] 33) = w1 at S2 ⊢
 have S3 := Lib.hid (show Sl.Sep w _ [_, _, L4.boxR g1 33 #[.string name, .int .i64 ver, .slice none 0 0, .slice none 0 0], Sv.ownV 73 2 none 0 0 (([] : List X_IndexDef).flatMap cl_IndexDef)] from Sv.push_own S2.out (Below.refl _ _) (OwnV.nil _ _ _ _))
 clear S2
 have S4 := Lib.hid (show Sl.Sep w _ [_, _, _, _, Sv.ownV 70 3 none 0 0 (([] : List LS).flatMap cl_Store)] from Sv.push_own S3.out (Below.refl _ _) (OwnV.nil _ _ _ _))
 clear S3
 have S5 := Lib.hid (show Sl.Sep w _ [_, _, _, _, _, Bag.bag (rws_Store [])] from Bag.push_bag S4.out (Below.refl _ _) (Bag.BagOwn.nil _ _))
 clear S4
 go_wp2_with fail
 go_loopw [6] (fun i wr => ∃ (k m : Nat) (A2 : Option Addr) (C2 : Nat) (ys : List LS), k ≤ N ∧ m ≤ k ∧ i = .int .i64 k ∧ Hid ((coS_Store ys = stays (hasN n) ((coS_Store ss).take k) ∧ ys.length = m) ∧ Sl.Sep w wr [L4.boxR w.heap.size 33 #[.string name, .int .i64 ver, .slice sa N sc, .slice ua M uc], L4.boxR (w.heap.size + 1) 33 #[.string ⟨#[]⟩, .int .i64 0, .slice none 0 0, .slice none 0 0], L4.boxR g1 33 #[.string name, .int .i64 ver, .slice A2 m C2, .slice none 0 0], Sv.ownV 73 2 none 0 0 (([] : List X_IndexDef).flatMap cl_IndexDef), Sv.ownV 70 3 A2 C2 m (ys.flatMap cl_Store), Bag.bag (rws_Store ys)])) (fun i _ => N - (intOf i).toNat)
 case atStart => exact ⟨0, 0, none, 0, [], Nat.zero_le _, Nat.le_refl _, rfl, And.intro ⟨rfl, rfl⟩ S5.out⟩
 case round =>
  obtain ⟨k, m, A2, C2, ys, hk, hmk, rfl, hrel⟩ := hrel
  have HC := Lib.hid hrel.out.1
  have S6 := Lib.hid hrel.out.2
  clear hrel S5
  by_cases hlt : (k : Int) < (N : Int)
  ·
   skip
   have hkl : k < ss.length := by have := HN.out; omega
   obtain ⟨x, hx⟩ : ∃ x, ss[k]? = some x := ⟨_, List.getElem?_eq_getElem hkl⟩
   obtain ⟨sad, e'⟩ := el_some cl_Store_len (by decide) (HR.out _ S6.out.old) hkl
   subst e'
   have HKx := Lib.hid (fun w' (h : Below w.heap.size w w') => el3 cl_Store_len (HR.out _ h) hx rfl)
   have HRx := Lib.hid (fun w' (h : Below w.heap.size w w') => rd_store (HX.out w' h) hx)
   have HFx := Lib.hid (fit_store HFD.out.stores hx)
   have HCx := Lib.hid (coS_at hx)
   clear hx
   have HCI := Lib.hid (fun w' (h : Below w.heap.size w w') => l6Copy_any x HFx.out w' (HRx.out w' h))
   dsimp only [LS.v, LS.cells] at HCI
   have HT := Lib.hid (stays_take (f := hasN n) HCx.out)
   cases hb : x.name.toList == n.toList with
   | true =>
    have HT2 := Lib.hid (show stays (hasN n) ((coS_Store ss).take (k + 1)) = stays (hasN n) ((coS_Store ss).take k) from by rw [HT.out, if_pos (show hasN n x.con = true from hb), List.append_nil])
    have hb2 : (x.name.toList != n.toList) = false := by rw [bne, hb]; rfl
    obtain ⟨f0, f1, f2, f3⟩ := Bag.cs4 S6.out 0 rfl
    obtain ⟨f4, f5, f6, f7⟩ := Bag.cs4 S6.out 1 rfl
    obtain ⟨f8, f9, f10, f11⟩ := Bag.cs4 S6.out 2 rfl
    obtain ⟨f12, f13, f14⟩ := HKx.out _ S6.out.old
    go_wp2_with fail
    go_roundw
    case rel => exact ⟨k + 1, m, A2, C2, ys, by omega, by omega, by go_num, And.intro ⟨by rw [HT2.out]; exact HC.out.1, HC.out.2⟩ S6.out⟩
    case measure => simp [intOf]; omega
   | false =>
    have HT2 := Lib.hid (show stays (hasN n) ((coS_Store ss).take (k + 1)) = stays (hasN n) ((coS_Store ss).take k) ++ [x.con] from by rw [HT.out, if_neg (show ¬ hasN n x.con = true from by rw [show hasN n x.con = false from hb]; simp)])
    have hb2 : (x.name.toList != n.toList) = true := by rw [bne, hb]; rfl
    obtain ⟨f0, f1, f2, f3⟩ := Bag.cs4 S6.out 0 rfl
    obtain ⟨f4, f5, f6, f7⟩ := Bag.cs4 S6.out 1 rfl
    obtain ⟨f8, f9, f10, f11⟩ := Bag.cs4 S6.out 2 rfl
    obtain ⟨f12, f13, f14⟩ := HKx.out _ S6.out.old
    go_upto_region 6 with fail
    clear f0 f1 f2 f3 f4 f5 f6 f7 f8 f9 f10 f11 f12 f13 f14
    refine Reg.wp_region_late (fun w' => (w'.cell? ⟨w.heap.size, 0, none⟩ = some (.string name) ∧ w'.cell? ⟨w.heap.size, 1, none⟩ = some (.int .i64 ver) ∧ w'.cell? ⟨w.heap.size, 2, none⟩ = some (.slice (some sad) N sc) ∧ w'.cell? ⟨w.heap.size, 3, none⟩ = some (.slice ua M uc)) ∧ (w'.cell? (sad.add (k * 3)) = some (.string x.name) ∧ w'.cell? (⟨(sad.add (k * 3)).block, (sad.add (k * 3)).off + 1, none⟩) = some (.slice x.a x.xs.length x.c) ∧ w'.cell? (⟨(sad.add (k * 3)).block, (sad.add (k * 3)).off + 2, none⟩) = some (.int .i64 x.auto))) (fun w' => (w'.cell? ⟨g1, 0, none⟩ = some (.string name) ∧ w'.cell? ⟨g1, 1, none⟩ = some (.int .i64 ver) ∧ w'.cell? ⟨g1, 2, none⟩ = some (.slice A2 m C2) ∧ w'.cell? ⟨g1, 3, none⟩ = some (.slice none 0 0))) 11 (by kernel_rfl) ⟨Bag.cs4 (Bag.drew1 S6.out) 0 rfl, HKx.out _ (Bag.drew1 S6.out).old⟩ (Bag.cs4 (Bag.drew1 S6.out) 2 rfl) (fun hS hL => ?_)
    have S7 := Lib.hid (Bag.drew1 S6.out)
    clear S6
    generalize World.drew _ = w2 at hS hL S7 ⊢
    refine Reg.early_op (i := 0) (v := ?_) rfl (by kernel_rfl) (by kernel_rfl) (by kernel_rfl) rfl (by kernel_rfl) (by kernel_rfl) (fun _ _ _ h => h) (by rfl) ?_ hS hL ?_
    rotate_left
    ·
     (intro w hSw hSv; (try dsimp only at hSw); (try dsimp only at hSv); go_simp; try with_reducible rfl)
    try simp only [zp0, zp1, zp2, zp3, zp4]
    refine Reg.early_op (i := 1) (v := ?_) rfl (by kernel_rfl) (by kernel_rfl) (by kernel_rfl) rfl (by kernel_rfl) (by kernel_rfl) (fun _ _ _ h => h) (by rfl) ?_ hS hL ?_
    rotate_left
    ·
     (intro w hSw hSv; (try dsimp only at hSw); (try dsimp only at hSv); go_simp; try with_reducible rfl)
    try simp only [zp0, zp1, zp2, zp3, zp4]
    refine Reg.early_op (i := 2) (v := ?_) rfl (by kernel_rfl) (by kernel_rfl) (by kernel_rfl) rfl (by kernel_rfl) (by kernel_rfl) (fun _ _ _ h => h) (by rfl) ?_ hS hL ?_
    rotate_left
    ·
     (intro w hSw hSv; (try dsimp only at hSw); (try dsimp only at hSv); go_simp; try with_reducible rfl)
    try simp only [zp0, zp1, zp2, zp3, zp4]
    refine Reg.early_op (i := 3) (v := ?_) rfl (by kernel_rfl) (by kernel_rfl) (by kernel_rfl) rfl (by kernel_rfl) (by kernel_rfl) (fun _ _ _ h => h) (by rfl) ?_ hS hL ?_
    rotate_left
    ·
     (intro w hSw hSv; (try dsimp only at hSw); (try dsimp only at hSv); go_simp; try with_reducible rfl)
    try simp only [zp0, zp1, zp2, zp3, zp4]
    refine Reg.early_op (i := 4) (v := ?_) rfl (by kernel_rfl) (by kernel_rfl) (by kernel_rfl) rfl (by kernel_rfl) (by kernel_rfl) (fun _ _ _ h => h) (by rfl) ?_ hS hL ?_
    rotate_left
    ·
     (intro w hSw hSv; (try dsimp only at hSw); (try dsimp only at hSv); go_simp; try with_reducible rfl)
    try simp only [zp0, zp1, zp2, zp3, zp4]
    refine Reg.early_op (i := 5) (v := ?_) rfl (by kernel_rfl) (by kernel_rfl) (by kernel_rfl) rfl (by kernel_rfl) (by kernel_rfl) (fun _ _ _ h => h) (by rfl) ?_ hS hL ?_
    rotate_left
    ·
     (intro w hSw hSv; (try dsimp only at hSw); (try dsimp only at hSv); go_simp; try with_reducible rfl)
    try simp only [zp0, zp1, zp2, zp3, zp4]
    refine Reg.early_op (i := 6) (v := ?_) rfl (by kernel_rfl) (by kernel_rfl) (by kernel_rfl) rfl (by kernel_rfl) (by kernel_rfl) (fun _ _ _ h => h) (by rfl) ?_ hS hL ?_
    rotate_left
    ·
     (intro w hSw hSv; (try dsimp only at hSw); (try dsimp only at hSv); go_simp; try with_reducible rfl)
    try simp only [zp0, zp1, zp2, zp3, zp4]
    refine Reg.only_op (i := 7) rfl (by kernel_rfl) (fun K hK => ?_)
    go_simp
    go_at_call 53
    refine (HCI.out _ S7.out.old).mono ?_
    rintro e w3 ⟨y, rfl, hcy, ho, hb⟩
    have S8 := Lib.hid (show Sl.Sep w _ [_, _, _, _, _, _, Bag.bag (LS.rows y)] from Bag.push_bag S7.out hb ho)
    clear S7
    clear hb ho
    have HCY := Lib.hid hcy
    clear hcy
    dsimp only [LS.v, LS.cells]
    go_wp2_with fail
    clear hL
    refine hK.out _ _ ⟨Bag.cs4 S8.out 0 rfl, HKx.out _ S8.out.old⟩ (Bag.cs4 S8.out 2 rfl) (fun hS hL => ?_)
    clear hK K
    try simp only [zp0, zp1, zp2, zp3, zp4]
    refine Reg.only_op (i := 8) rfl (by kernel_rfl) (fun K hK => ?_)
    go_simp
    have S9 := Lib.hid (show Sl.Sep w _ [_, _, _, _, _, _, _, Sv.ownV 70 3 (some ⟨w3.heap.size, 0, none⟩) 1 1 ([y].flatMap cl_Store)] from Sv.push_own S8.out ((Below.refl _ _).alloc (Nat.le_refl _) _) (OwnV.madeAt w3 70 3 1 w3.heap.size #[.string y.name, .slice y.a y.xs.length y.c, .int .i64 y.auto] rfl (Nat.le_refl _) rfl (by decide)))
    clear S8
    obtain ⟨g2, hg⟩ : ∃ g', g' = w3.heap.size := ⟨_, rfl⟩
    rw [← hg] at S9 ⊢
    clear hg
    generalize w3.alloc (.cells #[.string y.name, .slice y.a y.xs.length y.c, .int .i64 y.auto] 70) = w4 at S9 ⊢
    clear hL
    refine hK.out _ _ ⟨Bag.cs4 S9.out 0 rfl, HKx.out _ S9.out.old⟩ (Bag.cs4 S9.out 2 rfl) (fun hS hL => ?_)
    clear hK K
    try simp only [zp0, zp1, zp2, zp3, zp4]
    refine Reg.only_op (i := 9) rfl (by kernel_rfl) (fun K hK => ?_)
    refine Sv.step_append_s S9.out 4 rfl rfl _ _ 30 (by rfl) iS (.agg #[.string ⟨#[]⟩, .slice none 0 0, .int .i64 0]) 48 Tryz.underlying30 HIS.out.1 HIS.out.2.1 HIS.out.2.2.1 HIS.out.2.2.2 rfl (by omega) _ (by rfl) rfl _ _ 1 _ _ ([y].flatMap cl_Store) (by rfl) rfl ((Sv.own_at S9.out 7 rfl).reads) rfl (one_flat cl_Store_one _) (by unfold maxLen; omega) (by omega) ?_
    intro a3' c3' w5 hA
    have S10 := Lib.hid (show Sl.Sep w _ [_, _, _, _, Sv.ownV 70 3 a3' c3' (m + 1) (ys.flatMap cl_Store ++ ([y].flatMap cl_Store)), _, _, Sv.ownV 70 3 (some ⟨g2, 0, none⟩) 1 1 ([y].flatMap cl_Store)] from hA)
    clear S9
    clear hA
    clear hL
    refine hK.out _ _ ⟨Bag.cs4 S10.out 0 rfl, HKx.out _ S10.out.old⟩ (Bag.cs4 S10.out 2 rfl) (fun hS hL => ?_)
    clear hK K
    try simp only [zp0, zp1, zp2, zp3, zp4]
    refine Reg.early_op (i := 10) (v := ?_) rfl (by kernel_rfl) (by kernel_rfl) (by kernel_rfl) rfl (by kernel_rfl) (by kernel_rfl) (fun _ _ _ h => h) (by rfl) ?_ hS hL ?_
    rotate_left
    ·
     (intro w hSw hSv; (try dsimp only at hSw); (try dsimp only at hSv); go_simp; try with_reducible rfl)
    try simp only [zp0, zp1, zp2, zp3, zp4]
    refine Reg.late_op (i := 11) rfl (by kernel_rfl) rfl (fun K hK => ?_)
    obtain ⟨f0, f1, f2, f3⟩ := Bag.cs4 S10.out 2 rfl
    obtain ⟨z0, z1, z2, z3⟩ := Bag.fs4 S10.out 2 rfl
    go_simp
    clear f0 f1 f2 f3 z0 z1 z2 z3
    have S11 := Lib.hid (show Sl.Sep w _ [_, _, L4.boxR g1 33 #[.string name, .int .i64 ver, .slice a3' (m + 1) c3', .slice none 0 0], _, _, _, _, _] from L5.put_box5 (S10.out) 2 rfl 2 (.slice a3' (m + 1) c3'))
    clear S10
    refine hK.out _ _ ⟨Bag.cs4 S11.out 0 rfl, HKx.out _ S11.out.old⟩ (fun hS => ?_)
    clear hL
    clear hK K
    try simp only [zp0, zp1, zp2, zp3, zp4]
    refine Reg.anyL_done (by kernel_rfl) ?_ _
    obtain ⟨f0, f1, f2, f3⟩ := Bag.cs4 S11.out 0 rfl
    obtain ⟨f4, f5, f6, f7⟩ := Bag.cs4 S11.out 1 rfl
    obtain ⟨f8, f9, f10, f11⟩ := Bag.cs4 S11.out 2 rfl
    obtain ⟨f12, f13, f14⟩ := HKx.out _ S11.out.old
    clear f0 f1 f2 f3 f4 f5 f6 f7 f8 f9 f10 f11 f12 f13 f14
    have S12 := Lib.hid (show Sl.Sep w _ [_, _, _, _, _, Bag.bag (rws_Store ys ++ (LS.rows y)), Bag.bag ([]), _] from Bag.bag_join S11.out 5 6 (by decide) rfl rfl)
    clear S11
    have S13 := Lib.hid (show Sl.Sep w _ [_, _, _, _, _, _] from Bag.take S12.out [0, 1, 2, 3, 4, 5] (by rfl) (by decide))
    clear S12
    obtain ⟨f0, f1, f2, f3⟩ := Bag.cs4 S13.out 0 rfl
    obtain ⟨f4, f5, f6, f7⟩ := Bag.cs4 S13.out 1 rfl
    obtain ⟨f8, f9, f10, f11⟩ := Bag.cs4 S13.out 2 rfl
    obtain ⟨f12, f13, f14⟩ := HKx.out _ S13.out.old
    go_wp2_with fail
    go_roundw
    case rel =>
     refine ⟨k + 1, m + 1, a3', c3', ys ++ [y], by omega, by omega, by go_num, And.intro ⟨?_, ?_⟩ ?_⟩
     ·
      rw [HT2.out, ← HC.out.1, coS_Store_eq, coS_Store_eq, List.map_append, ← HCY.out]; rfl
     ·
      rw [List.length_append, HC.out.2]; rfl
     ·
      rw [List.flatMap_append, rws_Store_app, show rws_Store [y] = LS.rows y from by rw [rws_Store_eq]; simp; rfl]; exact S13.out
    case measure => simp [intOf]; omega
  ·
   skip
   obtain rfl : k = N := by omega
   have HCS := Lib.hid (show coS_Store ys = stays (hasN n) (coS_Store ss) from by have h := HC.out.1; rwa [List.take_of_length_le (by have := HN.out; rw [coS_len]; omega)] at h)
   have HYL := Lib.hid HC.out.2
   clear HC
   obtain ⟨f0, f1, f2, f3⟩ := Bag.cs4 S6.out 0 rfl
   obtain ⟨f4, f5, f6, f7⟩ := Bag.cs4 S6.out 1 rfl
   obtain ⟨f8, f9, f10, f11⟩ := Bag.cs4 S6.out 2 rfl
   go_wp2_with fail
   clear f0 f1 f2 f3 f4 f5 f6 f7 f8 f9 f10 f11
   go_loopw [7] (fun i wr => ∃ (j q : Nat) (A3 : Option Addr) (C3 : Nat) (vs : List X_IndexDef), j ≤ M ∧ q ≤ j ∧ i = .int .i64 j ∧ Hid ((vs = stays (fun v => v.f_Store.toList == n.toList) (us.take j) ∧ vs.length = q) ∧ Sl.Sep w wr [L4.boxR w.heap.size 33 #[.string name, .int .i64 ver, .slice sa k sc, .slice ua M uc], L4.boxR (w.heap.size + 1) 33 #[.string ⟨#[]⟩, .int .i64 0, .slice none 0 0, .slice none 0 0], L4.boxR g1 33 #[.string name, .int .i64 ver, .slice A2 m C2, .slice A3 q C3], Sv.ownV 73 2 A3 C3 q (vs.flatMap cl_IndexDef), Sv.ownV 70 3 A2 C2 m (ys.flatMap cl_Store), Bag.bag (rws_Store ys)])) (fun i _ => M - (intOf i).toNat)
   case atStart => exact ⟨0, 0, none, 0, [], Nat.zero_le _, Nat.le_refl _, rfl, And.intro ⟨rfl, rfl⟩ S6.out⟩
   case round =>
    obtain ⟨j, q, A3, C3, vs, hj, hqj, rfl, hrel⟩ := hrel
    have HC := Lib.hid hrel.out.1
    have S7 := Lib.hid hrel.out.2
    clear hrel S6
    by_cases hlt2 : (j : Int) < (M : Int)
    ·
     skip
     have hjl : j < us.length := by have := HM.out; omega
     obtain ⟨u, hu⟩ : ∃ x, us[j]? = some x := ⟨_, List.getElem?_eq_getElem hjl⟩
     obtain ⟨uad, e'⟩ := el_some cl_IndexDef_len (by decide) (HU.out _ S7.out.old) hjl
     subst e'
     have HKu := Lib.hid (fun w' (h : Below w.heap.size w w') => el2 cl_IndexDef_len (HU.out _ h) hu rfl)
     have HFu := Lib.hid (HFD.out.unique _ (List.mem_of_getElem? hu))
     have HCu := Lib.hid hu
     clear hu
     have HT := Lib.hid (stays_take (f := (fun v => v.f_Store.toList == n.toList)) HCu.out)
     cases hb : u.f_Store.toList == n.toList with
     | true =>
      have HT2 := Lib.hid (show stays (fun v => v.f_Store.toList == n.toList) (us.take (j + 1)) = stays (fun v => v.f_Store.toList == n.toList) (us.take j) from by rw [HT.out, if_pos hb, List.append_nil])
      have hb2 : (u.f_Store.toList != n.toList) = false := by rw [bne, hb]; rfl
      obtain ⟨f0, f1, f2, f3⟩ := Bag.cs4 S7.out 0 rfl
      obtain ⟨f4, f5, f6, f7⟩ := Bag.cs4 S7.out 1 rfl
      obtain ⟨f8, f9, f10, f11⟩ := Bag.cs4 S7.out 2 rfl
      obtain ⟨f12, f13⟩ := HKu.out _ S7.out.old
      go_wp2_with fail
      go_roundw
      case rel => exact ⟨j + 1, q, A3, C3, vs, by omega, by omega, by go_num, And.intro ⟨by rw [HT2.out]; exact HC.out.1, HC.out.2⟩ S7.out⟩
      case measure => simp [intOf]; omega
     | false =>
      have HT2 := Lib.hid (show stays (fun v => v.f_Store.toList == n.toList) (us.take (j + 1)) = stays (fun v => v.f_Store.toList == n.toList) (us.take j) ++ [u] from by rw [HT.out, if_neg (by rw [hb]; simp)])
      have hb2 : (u.f_Store.toList != n.toList) = true := by rw [bne, hb]; rfl
      obtain ⟨f0, f1, f2, f3⟩ := Bag.cs4 S7.out 0 rfl
      obtain ⟨f4, f5, f6, f7⟩ := Bag.cs4 S7.out 1 rfl
      obtain ⟨f8, f9, f10, f11⟩ := Bag.cs4 S7.out 2 rfl
      obtain ⟨f12, f13⟩ := HKu.out _ S7.out.old
      go_upto_region 11 with fail
      clear f0 f1 f2 f3 f4 f5 f6 f7 f8 f9 f10 f11 f12 f13
      refine Reg.wp_region_late (fun w' => (w'.cell? ⟨w.heap.size, 0, none⟩ = some (.string name) ∧ w'.cell? ⟨w.heap.size, 1, none⟩ = some (.int .i64 ver) ∧ w'.cell? ⟨w.heap.size, 2, none⟩ = some (.slice sa k sc) ∧ w'.cell? ⟨w.heap.size, 3, none⟩ = some (.slice (some uad) M uc)) ∧ (w'.cell? (uad.add (j * 2)) = some (.string u.f_Store) ∧ w'.cell? (⟨(uad.add (j * 2)).block, (uad.add (j * 2)).off + 1, none⟩) = some (.string u.f_Field))) (fun w' => (w'.cell? ⟨g1, 0, none⟩ = some (.string name) ∧ w'.cell? ⟨g1, 1, none⟩ = some (.int .i64 ver) ∧ w'.cell? ⟨g1, 2, none⟩ = some (.slice A2 m C2) ∧ w'.cell? ⟨g1, 3, none⟩ = some (.slice A3 q C3))) 10 (by kernel_rfl) ⟨Bag.cs4 (Bag.drew1 S7.out) 0 rfl, HKu.out _ (Bag.drew1 S7.out).old⟩ (Bag.cs4 (Bag.drew1 S7.out) 2 rfl) (fun hS hL => ?_)
      have S8 := Lib.hid (Bag.drew1 S7.out)
      clear S7
      generalize World.drew _ = w2 at hS hL S8 ⊢
      refine Reg.early_op (i := 0) (v := ?_) rfl (by kernel_rfl) (by kernel_rfl) (by kernel_rfl) rfl (by kernel_rfl) (by kernel_rfl) (fun _ _ _ h => h) (by rfl) ?_ hS hL ?_
      rotate_left
      ·
       (intro w hSw hSv; (try dsimp only at hSw); (try dsimp only at hSv); go_simp; try with_reducible rfl)
      try simp only [zp0, zp1, zp2, zp3, zp4]
      refine Reg.early_op (i := 1) (v := ?_) rfl (by kernel_rfl) (by kernel_rfl) (by kernel_rfl) rfl (by kernel_rfl) (by kernel_rfl) (fun _ _ _ h => h) (by rfl) ?_ hS hL ?_
      rotate_left
      ·
       (intro w hSw hSv; (try dsimp only at hSw); (try dsimp only at hSv); go_simp; try with_reducible rfl)
      try simp only [zp0, zp1, zp2, zp3, zp4]
      refine Reg.early_op (i := 2) (v := ?_) rfl (by kernel_rfl) (by kernel_rfl) (by kernel_rfl) rfl (by kernel_rfl) (by kernel_rfl) (fun _ _ _ h => h) (by rfl) ?_ hS hL ?_
      rotate_left
      ·
       (intro w hSw hSv; (try dsimp only at hSw); (try dsimp only at hSv); go_simp; try with_reducible rfl)
      try simp only [zp0, zp1, zp2, zp3, zp4]
      refine Reg.early_op (i := 3) (v := ?_) rfl (by kernel_rfl) (by kernel_rfl) (by kernel_rfl) rfl (by kernel_rfl) (by kernel_rfl) (fun _ _ _ h => h) (by rfl) ?_ hS hL ?_
      rotate_left
      ·
       (intro w hSw hSv; (try dsimp only at hSw); (try dsimp only at hSv); go_simp; try with_reducible rfl)
      try simp only [zp0, zp1, zp2, zp3, zp4]
      refine Reg.early_op (i := 4) (v := ?_) rfl (by kernel_rfl) (by kernel_rfl) (by kernel_rfl) rfl (by kernel_rfl) (by kernel_rfl) (fun _ _ _ h => h) (by rfl) ?_ hS hL ?_
      rotate_left
      ·
       (intro w hSw hSv; (try dsimp only at hSw); (try dsimp only at hSv); go_simp; try with_reducible rfl)
      try simp only [zp0, zp1, zp2, zp3, zp4]
      refine Reg.early_op (i := 5) (v := ?_) rfl (by kernel_rfl) (by kernel_rfl) (by kernel_rfl) rfl (by kernel_rfl) (by kernel_rfl) (fun _ _ _ h => h) (by rfl) ?_ hS hL ?_
      rotate_left
      ·
       (intro w hSw hSv; (try dsimp only at hSw); (try dsimp only at hSv); go_simp; try with_reducible rfl)
      try simp only [zp0, zp1, zp2, zp3, zp4]
      refine Reg.early_op (i := 6) (v := ?_) rfl (by kernel_rfl) (by kernel_rfl) (by kernel_rfl) rfl (by kernel_rfl) (by kernel_rfl) (fun _ _ _ h => h) (by rfl) ?_ hS hL ?_
      rotate_left
      ·
       (intro w hSw hSv; (try dsimp only at hSw); (try dsimp only at hSv); go_simp; try with_reducible rfl)
      try simp only [zp0, zp1, zp2, zp3, zp4]
      refine Reg.only_op (i := 7) rfl (by kernel_rfl) (fun K hK => ?_)
      go_simp
      have S9 := Lib.hid (show Sl.Sep w _ [_, _, _, _, _, _, Sv.ownV 73 2 (some ⟨w2.heap.size, 0, none⟩) 1 1 ([u].flatMap cl_IndexDef)] from Sv.push_own S8.out ((Below.refl _ _).alloc (Nat.le_refl _) _) (OwnV.madeAt w2 73 2 1 w2.heap.size #[.string u.f_Store, .string u.f_Field] rfl (Nat.le_refl _) rfl (by decide)))
      clear S8
      obtain ⟨g2, hg⟩ : ∃ g', g' = w2.heap.size := ⟨_, rfl⟩
      rw [← hg] at S9 ⊢
      clear hg
      generalize w2.alloc (.cells #[.string u.f_Store, .string u.f_Field] 73) = w3 at S9 ⊢
      clear hL
      refine hK.out _ _ ⟨Bag.cs4 S9.out 0 rfl, HKu.out _ S9.out.old⟩ (Bag.cs4 S9.out 2 rfl) (fun hS hL => ?_)
      clear hK K
      try simp only [zp0, zp1, zp2, zp3, zp4]
      refine Reg.only_op (i := 8) rfl (by kernel_rfl) (fun K hK => ?_)
      refine Sv.step_append_s S9.out 3 rfl rfl _ _ 31 (by rfl) iX (.agg #[.string ⟨#[]⟩, .string ⟨#[]⟩]) 32 Tryz.underlying31 HIX.out.1 HIX.out.2.1 HIX.out.2.2.1 HIX.out.2.2.2 rfl (by omega) _ (by rfl) rfl _ _ 1 _ _ ([u].flatMap cl_IndexDef) (by rfl) rfl ((Sv.own_at S9.out 6 rfl).reads) rfl (one_flat cl_IndexDef_one _) (by unfold maxLen; omega) (by omega) ?_
      intro a3' c3' w4 hA
      have S10 := Lib.hid (show Sl.Sep w _ [_, _, _, Sv.ownV 73 2 a3' c3' (q + 1) (vs.flatMap cl_IndexDef ++ ([u].flatMap cl_IndexDef)), _, _, Sv.ownV 73 2 (some ⟨g2, 0, none⟩) 1 1 ([u].flatMap cl_IndexDef)] from hA)
      clear S9
      clear hA
      clear hL
      refine hK.out _ _ ⟨Bag.cs4 S10.out 0 rfl, HKu.out _ S10.out.old⟩ (Bag.cs4 S10.out 2 rfl) (fun hS hL => ?_)
      clear hK K
      try simp only [zp0, zp1, zp2, zp3, zp4]
      refine Reg.early_op (i := 9) (v := ?_) rfl (by kernel_rfl) (by kernel_rfl) (by kernel_rfl) rfl (by kernel_rfl) (by kernel_rfl) (fun _ _ _ h => h) (by rfl) ?_ hS hL ?_
      rotate_left
      ·
       (intro w hSw hSv; (try dsimp only at hSw); (try dsimp only at hSv); go_simp; try with_reducible rfl)
      try simp only [zp0, zp1, zp2, zp3, zp4]
      refine Reg.late_op (i := 10) rfl (by kernel_rfl) rfl (fun K hK => ?_)
      obtain ⟨f0, f1, f2, f3⟩ := Bag.cs4 S10.out 2 rfl
      obtain ⟨z0, z1, z2, z3⟩ := Bag.fs4 S10.out 2 rfl
      go_simp
      clear f0 f1 f2 f3 z0 z1 z2 z3
      have S11 := Lib.hid (show Sl.Sep w _ [_, _, L4.boxR g1 33 #[.string name, .int .i64 ver, .slice A2 m C2, .slice a3' (q + 1) c3'], _, _, _, _] from L5.put_box5 (S10.out) 2 rfl 3 (.slice a3' (q + 1) c3'))
      clear S10
      refine hK.out _ _ ⟨Bag.cs4 S11.out 0 rfl, HKu.out _ S11.out.old⟩ (fun hS => ?_)
      clear hL
      clear hK K
      try simp only [zp0, zp1, zp2, zp3, zp4]
      refine Reg.anyL_done (by kernel_rfl) ?_ _
      obtain ⟨f0, f1, f2, f3⟩ := Bag.cs4 S11.out 0 rfl
      obtain ⟨f4, f5, f6, f7⟩ := Bag.cs4 S11.out 1 rfl
      obtain ⟨f8, f9, f10, f11⟩ := Bag.cs4 S11.out 2 rfl
      obtain ⟨f12, f13⟩ := HKu.out _ S11.out.old
      clear f0 f1 f2 f3 f4 f5 f6 f7 f8 f9 f10 f11 f12 f13
      have S12 := Lib.hid (show Sl.Sep w _ [_, _, _, _, _, _] from Bag.take S11.out [0, 1, 2, 3, 4, 5] (by rfl) (by decide))
      clear S11
      obtain ⟨f0, f1, f2, f3⟩ := Bag.cs4 S12.out 0 rfl
      obtain ⟨f4, f5, f6, f7⟩ := Bag.cs4 S12.out 1 rfl
      obtain ⟨f8, f9, f10, f11⟩ := Bag.cs4 S12.out 2 rfl
      obtain ⟨f12, f13⟩ := HKu.out _ S12.out.old
      go_wp2_with fail
      go_roundw
      case rel =>
       refine ⟨j + 1, q + 1, a3', c3', vs ++ [u], by omega, by omega, by go_num, And.intro ⟨?_, ?_⟩ ?_⟩
       ·
        rw [HT2.out, ← HC.out.1]
       ·
        rw [List.length_append, HC.out.2]; rfl
       ·
        rw [List.flatMap_append]; exact S12.out
      case measure => simp [intOf]; omega
    ·
     skip
     obtain rfl : j = M := by omega
     obtain ⟨f0, f1, f2, f3⟩ := Bag.cs4 S7.out 0 rfl
     obtain ⟨f4, f5, f6, f7⟩ := Bag.cs4 S7.out 1 rfl
     obtain ⟨f8, f9, f10, f11⟩ := Bag.cs4 S7.out 2 rfl
     obtain ⟨z0, z1, z2, z3⟩ := Bag.fs4 S7.out 1 rfl
     go_wp2_with fail
     clear f0 f1 f2 f3 f4 f5 f6 f7 f8 f9 f10 f11 z0 z1 z2 z3
     have S8 := Lib.hid (show Sl.Sep w _ [L4.boxR w.heap.size 33 #[.string name, .int .i64 ver, .slice sa k sc, .slice ua j uc], L4.boxR (w.heap.size + 1) 33 #[.string name, .int .i64 ver, .slice A2 m C2, .slice A3 q C3], L4.boxR g1 33 #[.string name, .int .i64 ver, .slice A2 m C2, .slice A3 q C3], Sv.ownV 73 2 A3 C3 q (vs.flatMap cl_IndexDef), Sv.ownV 70 3 A2 C2 m (ys.flatMap cl_Store), Bag.bag (rws_Store ys)] from L5.put_box5 (L5.put_box5 (L5.put_box5 (L5.put_box5 (S7.out) 1 rfl 0 (.string name)) 1 rfl 1 (.int .i64 ver)) 1 rfl 2 (.slice A2 m C2)) 1 rfl 3 (.slice A3 q C3))
     clear S7
     obtain ⟨f0, f1, f2, f3⟩ := Bag.cs4 S8.out 1 rfl
     refine bodyPost_ret (v := .agg #[.string name, .int .i64 ver, .slice A2 m C2, .slice A3 q C3]) (by simp [results, Tryz.results33, go_sem, *]) rfl ?_
     clear f0 f1 f2 f3
     obtain ⟨hc1, hc2⟩ := HC.out
     have hvs : vs = stays (fun v => v.f_Store.toList == n.toList) us := by rw [hc1, List.take_of_length_le (by have := HM.out; omega)]
     have hc3 := HYL.out
     have S90 := Lib.hid (Bag.bag_of_one S8.out 4 (r := row_Store A2 C2 ys) (by unfold RowS.res row_Store; dsimp only; rw [hc3]; rfl))
     have S91 := Lib.hid (Bag.bag_of_one S90.out 3 (r := row_IndexDef A3 C3 vs) (by unfold RowS.res row_IndexDef; dsimp only; rw [hc2]; rfl))
     have S92 := Lib.hid (Bag.bag_join S91.out 4 5 (by decide) rfl rfl)
     have S93 := Lib.hid (Bag.bag_join S92.out 4 3 (by decide) rfl rfl)
     have hb := Bag.bag_from S93.out 4 rfl
     subst hc2
     subst hc3
     exact ⟨⟨name, ver, A2, C2, ys, A3, C3, vs⟩, rfl, by unfold co_Database; dsimp only; rw [HCS.out, hvs]; rfl, hb, S93.out.old⟩
end Go.Proofs.YthljdhfgphebnaaGreat.L8

namespace Go.Proofs.YthljdhfgphebnaaGreat.L8
open V L6 L7
open L4 (K isK cmpK less_irrefl less_total less_asymm less_trans)
open L5 (F isR isN)
open Go.Op (bytesLess)
open Go.ChangeShapes Go.WideShapes Go.ChangeAt Go.RowKit Mem Sl Sv Bag

theorem okSx_all {xs : List S6} (h : allTo (okSx xs) xs.length = true) (j : Nat) (hj : j < xs.length) : isS xs[j] = true ∧ ∀ i (hi : i + 1 = j), bytesLess (xs[i]'(by omega)).name.toList xs[j].name.toList = true := by
 have h1 := allTo_at h j hj
 rw [okSx_at (List.getElem?_eq_getElem hj), Bool.and_eq_true] at h1
 refine ⟨h1.1, fun i hi => ?_⟩
 subst hi
 have h2 := h1.2
 rw [ahead8_at (List.getElem?_eq_getElem (show i < xs.length by omega))] at h2
 exact h2
theorem inorder {xs : List S6} (h : allTo (okSx xs) xs.length = true) : ∀ (b a : Nat) (hb : b < xs.length) (hab : a < b), bytesLess (xs[a]'(by omega)).name.toList xs[b].name.toList = true
 | 0, a, _, hab => by omega
 | b + 1, a, hb, hab => by
  have h1 := (okSx_all h (b + 1) hb).2 b rfl
  rcases Nat.lt_or_ge a b with h2 | h2
  ·
   exact less_trans _ _ _ (inorder h b a (by omega) h2) h1
  ·
   obtain rfl : a = b := by omega
   exact h1
theorem names_apart {xs : List S6} (h : allTo (okSx xs) xs.length = true) {a b : Nat} (ha : a < xs.length) (hb : b < xs.length) (hne : a ≠ b) : xs[a].name ≠ xs[b].name := fun e => by
 rcases Nat.lt_or_ge a b with h1 | h1
 ·
  have := inorder h b a hb h1
  rw [e, less_irrefl] at this
  cases this
 ·
  have := inorder h a b ha (by omega)
  rw [e, less_irrefl] at this
  cases this
theorem pos_found {xs : List S6} (h : allTo (okSx xs) xs.length = true) {n : ByteArray} {i : Nat} (hf : fndS xs n = some i) : posS xs n = i ∧ ∃ hi : i < xs.length, xs[i].name = n := by
 obtain ⟨hi, h1, _⟩ := idx_some hf
 have h2 := hasN_iff.1 h1
 refine ⟨posS_at i (Nat.le_of_lt hi) (fun j hj hji => ?_) (fun _ => ?_), hi, h2⟩
 ·
  rw [← h2]; exact inorder h i j hi hji
 ·
  rw [h2]; exact less_irrefl _
theorem ins_get {xs : List S6} {n : ByteArray} (i : Nat) : (insS xs n)[i]? = if i < posS xs n then xs[i]? else if i = posS xs n then some (zS n) else xs[i - 1]? := by
 have hp := posS_le xs n
 have hl : (xs.take (posS xs n)).length = posS xs n := by rw [List.length_take, Nat.min_eq_left hp]
 unfold insS
 by_cases h1 : i < posS xs n
 ·
  rw [if_pos h1, List.getElem?_append_left (by omega), List.getElem?_take, if_pos h1]
 ·
  rw [if_neg h1, List.getElem?_append_right (by omega), hl]
  by_cases h2 : i = posS xs n
  ·
   rw [if_pos h2, h2, Nat.sub_self]; rfl
  ·
   rw [if_neg h2, show i - posS xs n = (i - posS xs n - 1) + 1 by omega, List.getElem?_cons_succ, List.getElem?_drop]
   congr 1
   omega
theorem ins_len (xs : List S6) (n : ByteArray) : (insS xs n).length = xs.length + 1 := by
 have hp := posS_le xs n
 unfold insS
 rw [List.length_append, List.length_cons, List.length_take, List.length_drop]
 omega
theorem isD_no_stores {d : X_Database} (h : allTo (okSx d.f_Stores) d.f_Stores.length = false) : isD d = false := by unfold isD; rw [h]; rfl
theorem isD_no_unique {d : X_Database} (h : allTo (okUx d.f_Stores d.f_Unique) d.f_Unique.length = false) : isD d = false := by unfold isD; rw [h]; simp
theorem ins_bad {d : X_Database} {n : ByteArray} (hd : isD d = true) (hf : (fndS d.f_Stores n).isSome = true) : isD { d with f_Stores := insS d.f_Stores n } = false := by
 obtain ⟨i, hi⟩ := Option.isSome_iff_exists.1 hf
 obtain ⟨hp, hil, hn⟩ := pos_found (isD_parts hd).1 hi
 refine isD_no_stores (allTo_no (i + 1) (by show i + 1 < (insS d.f_Stores n).length; rw [ins_len]; omega) ?_)
 show okSx (insS d.f_Stores n) (i + 1) = false
 have h1 : (insS d.f_Stores n)[i + 1]? = some d.f_Stores[i] := by
  rw [ins_get, hp, if_neg (by omega), if_neg (by omega), Nat.add_sub_cancel]; exact List.getElem?_eq_getElem hil
 have h2 : (insS d.f_Stores n)[i]? = some (zS n) := by rw [ins_get, hp, if_neg (by omega), if_pos rfl]
 rw [okSx_at h1, ahead8_at h2, hn]
 rw [show bytesLess (zS n).name.toList n.toList = false from less_irrefl _, Bool.and_false]
theorem ix_bad {d : X_Database} {u : X_IndexDef} (h : ((fndS d.f_Stores u.f_Store).isSome && !(fndX d.f_Unique u).isSome) = false) : isD { d with f_Unique := d.f_Unique ++ [u] } = false := by
 refine isD_no_unique (allTo_no d.f_Unique.length (by show _ < (d.f_Unique ++ [u]).length; rw [List.length_append]; simp) ?_)
 show okUx d.f_Stores (d.f_Unique ++ [u]) d.f_Unique.length = false
 rw [okUx_at (u := u) (by rw [List.getElem?_append_right (Nat.le_refl _), Nat.sub_self]; rfl)]
 rw [Bool.and_eq_false_iff] at h
 rcases h with h | h
 ·
  have : fndS d.f_Stores u.f_Store = none := by simpa using h
  rw [show keptX d.f_Stores u = false from by unfold keptX; rw [this]]
  rfl
 ·
  rw [Bool.not_eq_false'] at h
  obtain ⟨i, hi⟩ := Option.isSome_iff_exists.1 h
  obtain ⟨hil, h1, _⟩ := idx_some hi
  rw [fresh_no (us := d.f_Unique ++ [u]) i (by rw [List.length_append]; simp; omega) hil (by rw [List.getElem_append_left hil]; exact h1), Bool.and_false]
theorem erase_filter {d : X_Database} {n : ByteArray} (hd : isD d = true) {i : Nat} (hf : fndS d.f_Stores n = some i) : d.f_Stores.eraseIdx i = d.f_Stores.filter fun s => !hasN n s := by
 obtain ⟨hi, h1, h2⟩ := idx_some hf
 have hn := hasN_iff.1 h1
 have e : d.f_Stores = d.f_Stores.take i ++ d.f_Stores[i] :: d.f_Stores.drop (i + 1) := split_next (List.getElem?_eq_getElem hi)
 rw [List.eraseIdx_eq_take_drop_succ]
 conv => rhs; rw [e]
 rw [List.filter_append, List.filter_cons, show (!hasN n d.f_Stores[i]) = false by rw [h1]; rfl]
 congr 1
 ·
  rw [eq_comm, List.filter_eq_self]
  intro s hs
  obtain ⟨j, hj, rfl⟩ := List.getElem_of_mem hs
  rw [List.length_take] at hj
  rw [List.getElem_take, h2 j (by omega)]
  rfl
 ·
  simp only [Bool.false_eq_true, ↓reduceIte]
  rw [eq_comm, List.filter_eq_self]
  intro s hs
  obtain ⟨j, hj, rfl⟩ := List.getElem_of_mem hs
  rw [List.length_drop] at hj
  rw [List.getElem_drop]
  cases hh : hasN n (d.f_Stores[i + 1 + j]'(by omega)) with
  | false => rfl
  | true => exact absurd (hn.trans (hasN_iff.1 hh).symm) (names_apart (isD_parts hd).1 hi (by omega) (by omega))
def chgD (d : X_Database) (u : X_Upgrade) : Option X_Database :=
 if u.f_Kind = 1 then some { d with f_Stores := insS d.f_Stores u.f_Store }
 else if u.f_Kind = 2 then (match fndS d.f_Stores u.f_Store with
  | some i => some ⟨d.f_Name, d.f_Version, d.f_Stores.eraseIdx i, d.f_Unique.filter fun v => !(v.f_Store.toList == u.f_Store.toList)⟩
  | none => none)
 else if u.f_Kind = 3 then some { d with f_Unique := d.f_Unique ++ [ixOf u] }
 else if u.f_Kind = 4 then (match fndX d.f_Unique (ixOf u) with
  | some x => some { d with f_Unique := d.f_Unique.eraseIdx x }
  | none => none)
 else none
theorem up_chg {d : X_Database} (u : X_Upgrade) (hd : isD d = true) : (upD d u, upB d u) = match chgD d u with
  | none => (d, false)
  | some o => if isD o then (o, true) else (d, false) := by
 unfold upD upB rawD chgD
 rw [hd]
 by_cases h1 : u.f_Kind = 1
 ·
  rw [if_pos h1, if_pos h1]
  cases hf : (fndS d.f_Stores u.f_Store).isSome with
  | true => simp [ins_bad hd hf]
  | false => simp only [Bool.false_eq_true, ↓reduceIte, Bool.true_and]; split <;> simp_all
 rw [if_neg h1, if_neg h1]
 by_cases h2 : u.f_Kind = 2
 ·
  rw [if_pos h2, if_pos h2]
  cases hf : fndS d.f_Stores u.f_Store with
  | none => rfl
  | some i =>
   simp only [Option.isSome_some, ↓reduceIte, Bool.true_and]
   rw [erase_filter hd hf]
   show (if isD (dropD d u.f_Store) = true then dropD d u.f_Store else d, isD (dropD d u.f_Store)) = if isD (dropD d u.f_Store) = true then (dropD d u.f_Store, true) else (d, false)
   split <;> simp_all
 rw [if_neg h2, if_neg h2]
 by_cases h3 : u.f_Kind = 3
 ·
  rw [if_pos h3, if_pos h3]
  cases hf : (fndS d.f_Stores u.f_Store).isSome && !(fndX d.f_Unique (ixOf u)).isSome with
  | false => simp [ix_bad (d := d) (u := ixOf u) hf]
  | true => simp only [↓reduceIte, Bool.true_and]; split <;> simp_all
 rw [if_neg h3, if_neg h3]
 by_cases h4 : u.f_Kind = 4
 ·
  rw [if_pos h4, if_pos h4]
  cases hf : fndX d.f_Unique (ixOf u) with
  | none => rfl
  | some x => simp only [Bool.true_and]; split <;> simp_all
 rw [if_neg h4, if_neg h4]
theorem up_no {d : X_Database} (u : X_Upgrade) (hd : isD d = false) : upD d u = d ∧ upB d u = false := by
 unfold upD upB
 cases rawD d u with
 | none => exact ⟨rfl, rfl⟩
 | some o => simp [hd]
theorem up_valid {d : X_Database} {u : X_Upgrade} (hb : upB d u = true) : isD (upD d u) = true := by
 unfold upB at hb
 unfold upD
 cases h : rawD d u with
 | none => rw [h] at hb; cases hb
 | some o => rw [h] at hb; simp only [h] at hb ⊢; rw [if_pos hb]; simp only [Bool.and_eq_true] at hb; exact hb.2
theorem up_same {d : X_Database} {u : X_Upgrade} (hb : upB d u = false) : upD d u = d := by
 unfold upB at hb
 unfold upD
 cases h : rawD d u with
 | none => rfl
 | some o => rw [h] at hb; simp only [h] at hb ⊢; rw [hb]; rfl
theorem all_valid : ∀ {us : List X_Upgrade} {d o : X_Database}, isD d = true → allD d us = some o → isD o = true
 | [], d, o, hd, h => by unfold allD at h; injection h with h; rw [← h]; exact hd
 | u :: us, d, o, hd, h => by
  unfold allD at h
  split at h
  ·
   rename_i hb; exact all_valid (up_valid hb) h
  ·
   cases h
theorem all_snoc : ∀ (us : List X_Upgrade) (u : X_Upgrade) (d : X_Database), allD d (us ++ [u]) = match allD d us with
  | none => none
  | some o => if upB o u then some (upD o u) else none
 | [], u, d => by
  show (if upB d u then allD (upD d u) [] else none) = _
  rfl
 | v :: us, u, d => by
  show (if upB d v then allD (upD d v) (us ++ [u]) else none) = match (if upB d v then allD (upD d v) us else none) with
   | none => none
   | some o => if upB o u then some (upD o u) else none
  split
  ·
   exact all_snoc us u (upD d v)
  ·
   rfl
theorem all_none {us vs : List X_Upgrade} {d : X_Database} (h : allD d us = none) : allD d (us ++ vs) = none := by
 induction us generalizing d with
 | nil => cases h
 | cons u us ih =>
  show (if upB d u then allD (upD d u) (us ++ vs) else none) = none
  have h' : (if upB d u then allD (upD d u) us else none) = none := h
  split at h'
  ·
   rename_i hb; rw [if_pos hb]; exact ih h'
  ·
   rename_i hb; rw [if_neg hb]
theorem isD_version {o : X_Database} {v : Int} (ho : isD o = true) : isD { o with f_Version := v } = L1.inB v 0 1000 := by
 obtain ⟨h1, h2, h3, _, h5, h6⟩ := isD_parts ho
 unfold isD
 dsimp only
 rw [h1, h2, h3, decide_eq_true h5, decide_eq_true h6]
 simp
theorem inB_iff {v lo hi : Int} : L1.inB v lo hi = true ↔ lo ≤ v ∧ v ≤ hi := L1.inB_true
theorem to_prog (d : X_Database) (v : Int) (us : List X_Upgrade) : toO d v us = if isD d && L1.inB v (d.f_Version + 1) 1000 then (allD d us).map (fun o => { o with f_Version := v }) else none := by
 unfold toO
 cases hd : isD d with
 | false =>
  simp only [Bool.false_and, Bool.and_false, Bool.false_eq_true, ↓reduceIte]
  cases allD d us <;> rfl
 | true =>
  have h0 : 0 ≤ d.f_Version ∧ d.f_Version ≤ 1000 := inB_iff.1 (isD_parts hd).2.2.2.1
  cases ha : allD d us with
  | none => simp
  | some o =>
   have ho := all_valid hd ha
   simp only [Bool.true_and, isD_version ho, Option.map_some]
   by_cases h1 : d.f_Version < v <;> by_cases h2 : v ≤ 1000
   ·
    rw [inB_iff.2 ⟨by omega, h2⟩, inB_iff.2 ⟨by omega, h2⟩]; simp [h1]
   ·
    rw [show L1.inB v 0 1000 = false from by cases h : L1.inB v 0 1000 with | false => rfl | true => exact absurd (inB_iff.1 h).2 h2, show L1.inB v (d.f_Version + 1) 1000 = false from by cases h : L1.inB v (d.f_Version + 1) 1000 with | false => rfl | true => exact absurd (inB_iff.1 h).2 h2]; simp
   ·
    rw [show L1.inB v (d.f_Version + 1) 1000 = false from by cases h : L1.inB v (d.f_Version + 1) 1000 with | false => rfl | true => exact absurd (inB_iff.1 h).1 (by omega)]; simp [h1]
   ·
    rw [show L1.inB v (d.f_Version + 1) 1000 = false from by cases h : L1.inB v (d.f_Version + 1) 1000 with | false => rfl | true => exact absurd (inB_iff.1 h).1 (by omega)]; simp [h1]
theorem FitS.empty {n : ByteArray} (h : n.size ≤ 281474976710656) : FitS (zS n) := ⟨h, Nat.zero_le _, fun x hx => by cases hx⟩
theorem FitD.upD {d : X_Database} {u : X_Upgrade} (hf : FitD d) (hn : u.f_Store.size ≤ 281474976710656) (hx : u.f_Field.size ≤ 281474976710656) : FitD (upD d u) := by
 cases hb : upB d u with
 | false => rw [up_same hb]; exact hf
 | true =>
  have hv := up_valid hb
  obtain ⟨_, _, _, _, h5, h6⟩ := isD_parts hv
  have key : ∀ o, rawD d u = some o → o.f_Name = d.f_Name ∧ (∀ s ∈ o.f_Stores, FitS s) ∧ ∀ v ∈ o.f_Unique, FitX v := fun o ho => by
   unfold rawD at ho
   split at ho
   ·
    split at ho
    ·
     cases ho
    ·
     injection ho with ho; subst ho
     refine ⟨rfl, fun s hs => ?_, hf.unique⟩
     have hs' : s ∈ insS d.f_Stores u.f_Store := hs
     unfold insS at hs'
     rcases List.mem_append.1 hs' with h1 | h1
     ·
      exact hf.stores s (List.mem_of_mem_take h1)
     ·
      rcases List.mem_cons.1 h1 with rfl | h1
      ·
       exact FitS.empty hn
      ·
       exact hf.stores s (List.mem_of_mem_drop h1)
   ·
    split at ho
    ·
     split at ho
     ·
      injection ho with ho; subst ho
      exact ⟨rfl, fun s hs => hf.stores s (List.mem_filter.1 hs).1, fun v hv => hf.unique v (List.mem_filter.1 hv).1⟩
     ·
      cases ho
    ·
     split at ho
     ·
      split at ho
      ·
       injection ho with ho; subst ho
       refine ⟨rfl, hf.stores, fun v hv => ?_⟩
       rcases List.mem_append.1 (show v ∈ d.f_Unique ++ [ixOf u] from hv) with h1 | h1
       ·
        exact hf.unique v h1
       ·
        rw [List.mem_singleton] at h1; subst h1; exact ⟨hn, hx⟩
      ·
       cases ho
     ·
      split at ho
      ·
       split at ho
       ·
        injection ho with ho; subst ho
        exact ⟨rfl, hf.stores, fun v hv => hf.unique v (List.mem_of_mem_eraseIdx hv)⟩
       ·
        cases ho
      ·
       cases ho
  have e : rawD d u = some (L8.upD d u) := by
   unfold upB at hb
   unfold L8.upD
   cases h : rawD d u with
   | none => rw [h] at hb; cases hb
   | some o => rw [h] at hb; simp only [h] at hb ⊢; rw [if_pos hb]
  obtain ⟨k1, k2, k3⟩ := key _ e
  exact ⟨by rw [k1]; exact hf.name, by omega, k2, by omega, k3⟩
theorem FitD.allD : ∀ {us : List X_Upgrade} {d o : X_Database}, FitD d → (∀ u ∈ us, u.f_Store.size ≤ 281474976710656 ∧ u.f_Field.size ≤ 281474976710656) → allD d us = some o → FitD o
 | [], d, o, hf, _, h => by unfold L8.allD at h; injection h with h; rw [← h]; exact hf
 | u :: us, d, o, hf, hu, h => by
  unfold L8.allD at h
  split at h
  ·
   exact FitD.allD (hf.upD (hu u (List.mem_cons_self ..)).1 (hu u (List.mem_cons_self ..)).2) (fun v hv => hu v (List.mem_cons_of_mem _ hv)) h
  ·
   cases h
theorem FitD.version {d : X_Database} (hf : FitD d) (v : Int) : FitD { d with f_Version := v } := ⟨hf.name, hf.len, hf.stores, hf.many, hf.unique⟩
theorem FitD.toD {d : X_Database} {v : Int} {us : List X_Upgrade} (hf : FitD d) (hu : ∀ u ∈ us, u.f_Store.size ≤ 281474976710656 ∧ u.f_Field.size ≤ 281474976710656) : FitD (toD d v us) := by
 unfold L8.toD toO
 cases h : L8.allD d us with
 | none => exact hf
 | some o =>
  dsimp only
  split
  ·
   exact (FitD.allD hf hu h).version v
  ·
   exact hf
end Go.Proofs.YthljdhfgphebnaaGreat.L8

set_option linter.unusedSimpArgs false
namespace Go.Proofs.YthljdhfgphebnaaGreat.L8
open V L6 L7
open L4 (K isK cmpK)
open L5 (F isR isN string_geq)
open Go.Op (bytesLess)
open Go.ChangeShapes Go.WideShapes Go.ChangeAt Go.RowKit Mem Sl Ex L2 Sv Bag

theorem numO_none : numO none = -1 := rfl
theorem numO_some (i : Nat) : numO (some i) = (i : Int) := rfl
theorem up_raw {d o : X_Database} {u : X_Upgrade} (h : rawD d u = some o) : upB d u = (isD d && isD o) ∧ upD d u = if isD d && isD o then o else d := by
 unfold upB upD
 rw [h]
 exact ⟨rfl, rfl⟩
theorem up_none {d : X_Database} {u : X_Upgrade} (h : rawD d u = none) : upD d u = d ∧ upB d u = false := by
 unfold upB upD
 rw [h]
 exact ⟨rfl, rfl⟩
theorem raw_ins {d : X_Database} {n f : ByteArray} (h : fndS d.f_Stores n = none) : rawD d ⟨1, n, f⟩ = some { d with f_Stores := insS d.f_Stores n } := by unfold rawD; rw [if_pos rfl]; dsimp only; rw [h]; rfl
theorem raw_ins_no {d : X_Database} {n f : ByteArray} {k : Nat} (h : fndS d.f_Stores n = some k) : rawD d ⟨1, n, f⟩ = none := by unfold rawD; rw [if_pos rfl]; dsimp only; rw [h]; rfl
theorem raw_drop {d : X_Database} {n f : ByteArray} {k : Nat} (h : fndS d.f_Stores n = some k) : rawD d ⟨2, n, f⟩ = some (dropD d n) := by unfold rawD; rw [if_neg (by dsimp only; decide), if_pos rfl]; dsimp only; rw [h]; rfl
theorem raw_drop_no {d : X_Database} {n f : ByteArray} (h : fndS d.f_Stores n = none) : rawD d ⟨2, n, f⟩ = none := by unfold rawD; rw [if_neg (by dsimp only; decide), if_pos rfl]; dsimp only; rw [h]; rfl
theorem raw_ix {d : X_Database} {n f : ByteArray} {k : Nat} (h : fndS d.f_Stores n = some k) (h2 : fndX d.f_Unique ⟨n, f⟩ = none) : rawD d ⟨3, n, f⟩ = some { d with f_Unique := d.f_Unique ++ [⟨n, f⟩] } := by
 unfold rawD
 rw [if_neg (by dsimp only; decide), if_neg (by dsimp only; decide), if_pos rfl]
 show (if (fndS d.f_Stores n).isSome && !(fndX d.f_Unique ⟨n, f⟩).isSome then _ else _) = _
 rw [h, h2]; rfl
theorem raw_ix_no {d : X_Database} {n f : ByteArray} (h : fndS d.f_Stores n = none) : rawD d ⟨3, n, f⟩ = none := by unfold rawD; rw [if_neg (by dsimp only; decide), if_neg (by dsimp only; decide), if_pos rfl]; dsimp only; rw [h]; rfl
theorem raw_ix_no2 {d : X_Database} {n f : ByteArray} {x : Nat} (h : fndX d.f_Unique ⟨n, f⟩ = some x) : rawD d ⟨3, n, f⟩ = none := by
 unfold rawD
 rw [if_neg (by dsimp only; decide), if_neg (by dsimp only; decide), if_pos rfl]
 show (if (fndS d.f_Stores n).isSome && !(fndX d.f_Unique ⟨n, f⟩).isSome then _ else _) = _
 rw [h]
 simp
theorem raw_no {d : X_Database} {n f : ByteArray} {x : Nat} (h : fndX d.f_Unique ⟨n, f⟩ = some x) : rawD d ⟨4, n, f⟩ = some { d with f_Unique := d.f_Unique.eraseIdx x } := by
 unfold rawD
 rw [if_neg (by dsimp only; decide), if_neg (by dsimp only; decide), if_neg (by dsimp only; decide), if_pos rfl]
 show (match fndX d.f_Unique ⟨n, f⟩ with | some x => _ | none => _) = _
 rw [h]
theorem raw_no_no {d : X_Database} {n f : ByteArray} (h : fndX d.f_Unique ⟨n, f⟩ = none) : rawD d ⟨4, n, f⟩ = none := by
 unfold rawD
 rw [if_neg (by dsimp only; decide), if_neg (by dsimp only; decide), if_neg (by dsimp only; decide), if_pos rfl]
 show (match fndX d.f_Unique ⟨n, f⟩ with | some x => _ | none => _) = _
 rw [h]
theorem raw_other {d : X_Database} {u : X_Upgrade} (h1 : u.f_Kind ≠ 1) (h2 : u.f_Kind ≠ 2) (h3 : u.f_Kind ≠ 3) (h4 : u.f_Kind ≠ 4) : rawD d u = none := by unfold rawD; rw [if_neg h1, if_neg h2, if_neg h3, if_neg h4]
theorem FitD.raw {d o : X_Database} {u : X_Upgrade} (hf : FitD d) (hd : isD d = true) (hn : u.f_Store.size ≤ 281474976710656) (hx : u.f_Field.size ≤ 281474976710656) (ho : rawD d u = some o) : FitD o := by
 obtain ⟨_, _, _, _, h5, h6⟩ := isD_parts hd
 unfold rawD at ho
 split at ho
 ·
  split at ho
  ·
   cases ho
  ·
   injection ho with ho; subst ho
   refine ⟨hf.name, by show (insS d.f_Stores u.f_Store).length ≤ _; rw [ins_len]; omega, fun s hs => ?_, hf.many, hf.unique⟩
   rcases List.mem_append.1 (show s ∈ d.f_Stores.take (posS d.f_Stores u.f_Store) ++ zS u.f_Store :: d.f_Stores.drop (posS d.f_Stores u.f_Store) from hs) with h1 | h1
   ·
    exact hf.stores s (List.mem_of_mem_take h1)
   ·
    rcases List.mem_cons.1 h1 with rfl | h1
    ·
     exact FitS.empty hn
    ·
     exact hf.stores s (List.mem_of_mem_drop h1)
 ·
  split at ho
  ·
   split at ho
   ·
    injection ho with ho; subst ho
    have hl := List.length_filter_le (fun s : S6 => !hasN u.f_Store s) d.f_Stores
    have hm := List.length_filter_le (fun v : X_IndexDef => !(v.f_Store.toList == u.f_Store.toList)) d.f_Unique
    exact ⟨hf.name, by show (d.f_Stores.filter _).length ≤ _; omega, fun s hs => hf.stores s (List.mem_filter.1 hs).1, by show (d.f_Unique.filter _).length ≤ _; omega, fun v hv => hf.unique v (List.mem_filter.1 hv).1⟩
   ·
    cases ho
  ·
   split at ho
   ·
    split at ho
    ·
     injection ho with ho; subst ho
     refine ⟨hf.name, hf.len, hf.stores, by show (d.f_Unique ++ [ixOf u]).length ≤ _; rw [List.length_append]; simp; omega, fun v hv => ?_⟩
     rcases List.mem_append.1 (show v ∈ d.f_Unique ++ [ixOf u] from hv) with h1 | h1
     ·
      exact hf.unique v h1
     ·
      rw [List.mem_singleton] at h1; subst h1; exact ⟨hn, hx⟩
    ·
     cases ho
   ·
    split at ho
    ·
     split at ho
     ·
      rename_i x _
      injection ho with ho; subst ho
      have hl := List.length_eraseIdx_le d.f_Unique x
      exact ⟨hf.name, hf.len, hf.stores, by show (d.f_Unique.eraseIdx x).length ≤ _; omega, fun v hv => hf.unique v (List.mem_of_mem_eraseIdx hv)⟩
     ·
      cases ho
    ·
     cases ho
theorem rows_insS2 {ys : List LS} {z : LS} {k : Nat} : (rws_Store ys ++ rw_Store z).Perm (rws_Store (ys.take k ++ z :: ys.drop k)) := by
 rw [rws_Store_eq, rws_Store_eq, List.flatMap_append, List.flatMap_cons]
 have e : ys.flatMap rw_Store = (ys.take k).flatMap rw_Store ++ (ys.drop k).flatMap rw_Store := by rw [← List.flatMap_append, List.take_append_drop]
 rw [e, List.append_assoc]
 exact List.Perm.append_left _ List.perm_append_comm
theorem coS_ins2 {ys : List LS} {n : ByteArray} {k : Nat} : coS_Store (ys.take k ++ ⟨n, none, 0, [], 0⟩ :: ys.drop k) = (coS_Store ys).take k ++ zS n :: (coS_Store ys).drop k := by
 rw [coS_Store_eq, coS_Store_eq, List.map_append, List.map_cons, List.map_take, List.map_drop]
 rfl

set_option maxHeartbeats 16000000 in
theorem specApplyUpgrade_flat (z : Y_Database) (uk : Int) (un uf : ByteArray) (hf : FitD (co_Database z)) (hn : un.size ≤ 281474976710656) (hx : uf.size ≤ 281474976710656) (w : World) (hr : RowsRd w w.heap.size (rw_Database z)) :
  Calls Tryz.prog 8 #[vv_Database z, vv_Upgrade (⟨uk, un, uf⟩ : X_Upgrade)] w (GaveDB w (upD (co_Database z) (⟨uk, un, uf⟩ : X_Upgrade)) (upB (co_Database z) (⟨uk, un, uf⟩ : X_Upgrade))) := by
 obtain ⟨iS, hi1, hi2, hi3, hi4⟩ := infoL_Store
 have HIS := Lib.hid (And.intro hi1 (And.intro hi2 (And.intro hi3 hi4)))
 clear hi1 hi2 hi3 hi4
 obtain ⟨iX, hi1, hi2, hi3, hi4⟩ := infoL_IndexDef
 have HIX := Lib.hid (And.intro hi1 (And.intro hi2 (And.intro hi3 hi4)))
 clear hi1 hi2 hi3 hi4
 have HVD := fun w' (h : Below w.heap.size w w') => specIsDatabase_any z hf w' ((hr.below h).more h.size)
 have HCP := fun w' (h : Below w.heap.size w w') => l8Copy_any z hf w' ((hr.below h).more h.size)
 have HFS := fun w' (h : Below w.heap.size w w') => specFindStore_any z un hf w' ((hr.below h).more h.size)
 have HLI := fun w' (h : Below w.heap.size w w') => specL8Index_any z (⟨uk, un, uf⟩ : X_Upgrade) hf w' ((hr.below h).more h.size)
 have HDR := fun w' (h : Below w.heap.size w w') => l8Drop_any z un hf w' ((hr.below h).more h.size)
 obtain ⟨D, hD⟩ : ∃ D, co_Database z = D := ⟨_, rfl⟩
 rw [hD] at HVD HCP HFS HLI HDR ⊢
 have HFDD := Lib.hid (show FitD D from by rw [← hD]; exact hf)
 have HUN := Lib.hid (And.intro hn hx)
 clear hn hx
 obtain ⟨B, hB⟩ : ∃ B, isD D = B := ⟨_, rfl⟩
 rw [hB] at HVD
 have HB := Lib.hid hB
 clear hB
 have HR : Hid (∀ w' (h : Below w.heap.size w w'), Reads w' w.heap.size z.f_Stores_a (z.f_Stores.flatMap cl_Store)) := Lib.hid (fun w' h => (rdS hr).below h)
 have HX : Hid (∀ w' (h : Below w.heap.size w w'), RowsRd w' w'.heap.size (rws_Store z.f_Stores)) := Lib.hid (fun w' h => ((rdX hr).below h).more h.size)
 have HU : Hid (∀ w' (h : Below w.heap.size w w'), Reads w' w.heap.size z.f_Unique_a (z.f_Unique.flatMap cl_IndexDef)) := Lib.hid (fun w' h => (rdU hr).below h)
 have HFD := Lib.hid hf
 have HFDl : z.f_Stores.length ≤ 1048576 := by have h := hf.len; rwa [co_len] at h
 have HFDm : z.f_Unique.length ≤ 1048576 := hf.many
 clear hf hr
 obtain ⟨name, ver, sa, sc, ss, ua, uc, us⟩ := z
 dsimp only [co_Database] at HR HX HU HFD HFDl HFDm
 try unfold vv_Database
 try unfold co_Database
 try dsimp only
 try rw [show coS_IndexDef us = us from rfl]
 rw [show coS_IndexDef us = us from rfl] at HFD
 obtain ⟨N, hN⟩ : ∃ n, n = ss.length := ⟨_, rfl⟩
 obtain ⟨M, hM⟩ : ∃ n, n = us.length := ⟨_, rfl⟩
 rw [← hN] at HFDl ⊢
 rw [← hM] at HFDm ⊢
 have HFDl' : (N : Int) ≤ 1048576 := by omega
 have HFDm' : (M : Int) ≤ 1048576 := by omega
 have HN := Lib.hid hN
 have HM := Lib.hid hM
 clear hN hM
 have HDC := Lib.hid (show D = ⟨name, ver, coS_Store ss, us⟩ from hD.symm)
 clear hD
 unfold vv_Database at HVD HCP HFS HLI HDR
 unfold vv_Upgrade at HLI ⊢
 dsimp only at HVD HCP HFS HLI HDR ⊢
 rw [← HN.out, ← HM.out] at HVD HCP HFS HLI HDR
 replace HVD := Lib.hid HVD
 replace HCP := Lib.hid HCP
 replace HDR := Lib.hid HDR
 have S1 := Lib.hid (show Sl.Sep w _ [_, _, _] from L4.push_box (L4.push_box (L4.push_box (Sl.Sep.start w) 33 #[.string name, .int .i64 ver, .slice sa N sc, .slice ua M uc] (w.heap.size) (by simp)) 37 #[.int .i64 uk, .string un, .string uf] (w.heap.size + 1) (by simp)) 33 #[.string ⟨#[]⟩, .int .i64 0, .slice none 0 0, .slice none 0 0] (w.heap.size + 1 + 1) (by simp))
 obtain ⟨wa, hwa⟩ : ∃ w_, w_ = (((w.alloc (.cells #[.string name, .int .i64 ver, .slice sa N sc, .slice ua M uc] 33)).alloc (.cells #[.int .i64 uk, .string un, .string uf] 37)).alloc (.cells #[.string ⟨#[]⟩, .int .i64 0, .slice none 0 0, .slice none 0 0] 33)) := ⟨_, rfl⟩
 rw [← hwa] at S1
 go_enter Tryz.func8, Tryz.ntmps8
 go_upto_region 1 with fail
 rw [← hwa]
 clear hwa
 obtain ⟨f0, f1, f2, f3⟩ := Bag.cs4 S1.out 0 rfl
 go_wp2_with fail
 go_at_call 30
 refine (HCP.out _ S1.out.old).mono ?_
 rintro e w1 ⟨y3, rfl, hcy, ho, hb⟩
 clear f0 f1 f2 f3
 have S2 := Lib.hid (show Sl.Sep w _ [_, _, _, Bag.bag (rw_Database y3)] from Bag.push_bag S1.out hb ho)
 clear S1
 clear hb ho
 have HCY3 := Lib.hid hcy
 clear hcy
 unfold vv_Database
 obtain ⟨nm, vr, a3, c3, ys, ub, uc3, vs⟩ := y3
 obtain ⟨e1, e2, e3, e4⟩ : nm = name ∧ vr = ver ∧ coS_Store ys = coS_Store ss ∧ vs = us := by have h := HCY3.out; rw [HDC.out] at h; unfold co_Database at h; simp only [X_Database.mk.injEq] at h; exact h
 subst e1
 subst e2
 subst e4
 have hyl : ys.length = N := by have h := congrArg List.length e3; rw [coS_len, coS_len] at h; rw [h, HN.out]
 have HCE := Lib.hid e3
 clear e3
 dsimp only
 have hvl : vs.length = M := HM.out.symm
 rw [hyl, hvl]
 obtain ⟨f0, f1, f2, f3⟩ := Bag.cs4 S2.out 0 rfl
 go_upto_region 2 with fail
 clear f0 f1 f2 f3
 have S3 := Lib.hid (show Sl.Sep w _ [_, _, _, _, _] from L4.push_box S2.out 33 #[.string nm, .int .i64 vr, .slice a3 N c3, .slice ub M uc3] w1.heap.size rfl)
 clear S2
 obtain ⟨g1, hg⟩ : ∃ g', g' = w1.heap.size := ⟨_, rfl⟩
 rw [← hg] at S3 ⊢
 clear hg
 generalize w1.alloc (.cells #[.string nm, .int .i64 vr, .slice a3 N c3, .slice ub M uc3] 33) = w2 at S3 ⊢
 have S4 := Lib.hid (show Sl.Sep w _ [_, _, _, Bag.bag (([row_Store a3 c3 ys] ++ rws_Store ys) ++ [row_IndexDef ub uc3 vs]), L4.boxR g1 33 #[.string nm, .int .i64 vr, .slice a3 N c3, .slice ub M uc3]] from S3.out)
 clear S3
 have S5 := Lib.hid (show Sl.Sep w _ [_, _, _, Bag.bag ([row_Store a3 c3 ys] ++ rws_Store ys), _, Bag.bag ([row_IndexDef ub uc3 vs])] from Bag.bag_split S4.out 3 rfl)
 clear S4
 have S6 := Lib.hid (show Sl.Sep w _ [_, _, _, Bag.bag ([row_Store a3 c3 ys]), _, _, Bag.bag (rws_Store ys)] from Bag.bag_split S5.out 3 rfl)
 clear S5
 have S7 := Lib.hid (show Sl.Sep w _ [_, _, _, Sv.ownV 70 3 a3 c3 N (ys.flatMap cl_Store), _, _, _] from (by have h := Bag.one_of_bag S6.out 3 (r := row_Store a3 c3 ys) rfl; unfold RowS.res row_Store at h; dsimp only at h; rw [hyl] at h; exact h))
 clear S6
 have S8 := Lib.hid (show Sl.Sep w _ [_, _, _, _, _, Sv.ownV 73 2 ub uc3 M (vs.flatMap cl_IndexDef), _] from (by have h := Bag.one_of_bag S7.out 5 (r := row_IndexDef ub uc3 vs) rfl; unfold RowS.res row_IndexDef at h; dsimp only at h; rw [hvl] at h; exact h))
 clear S7
 have HYL := Lib.hid hyl
 have HVL := Lib.hid hvl
 clear hyl hvl
 obtain ⟨f0, f1, f2, f3⟩ := Bag.cs4 S8.out 0 rfl
 obtain ⟨f4, f5, f6⟩ := Bag.cs3 S8.out 1 rfl
 obtain ⟨ko, hko⟩ : ∃ o, fndS D.f_Stores un = o := ⟨_, rfl⟩
 rw [hko] at HFS
 replace HFS := Lib.hid HFS
 have HKO := Lib.hid hko
 clear hko
 go_wp2_with fail
 go_at_call 31
 refine (HFS.out _ S8.out.old).mono ?_
 rintro e w3 ⟨rfl, hb⟩
 clear f0 f1 f2 f3 f4 f5 f6
 have S9 := Lib.hid (S8.out.keep hb)
 clear S8
 clear hb
 obtain ⟨f0, f1, f2, f3⟩ := Bag.cs4 S9.out 0 rfl
 obtain ⟨f4, f5, f6⟩ := Bag.cs3 S9.out 1 rfl
 obtain ⟨xo, hxo⟩ : ∃ o, fndX D.f_Unique (ixOf (⟨uk, un, uf⟩ : X_Upgrade)) = o := ⟨_, rfl⟩
 rw [hxo] at HLI
 replace HLI := Lib.hid HLI
 have HXO := Lib.hid hxo
 clear hxo
 go_wp2_with fail
 go_at_call 32
 refine (HLI.out _ S9.out.old).mono ?_
 rintro e w4 ⟨rfl, hb⟩
 clear f0 f1 f2 f3 f4 f5 f6
 have S10 := Lib.hid (S9.out.keep hb)
 clear S9
 clear hb
 obtain ⟨f0, f1, f2, f3⟩ := Bag.cs4 S10.out 0 rfl
 obtain ⟨f4, f5, f6⟩ := Bag.cs3 S10.out 1 rfl
 clear f0 f1 f2 f3 f4 f5 f6
 go_upto_block 0 with fail
 go_cut [] (fun wx => ∃ (y : Y_Database) (O : X_Database), rawD D (⟨uk, un, uf⟩ : X_Upgrade) = some O ∧ co_Database y = O ∧ Hid (Sl.Sep w wx [L4.boxR w.heap.size 33 #[.string nm, .int .i64 vr, .slice sa N sc, .slice ua M uc], L4.boxR (w.heap.size + 1) 37 #[.int .i64 uk, .string un, .string uf], L4.boxR (w.heap.size + 1 + 1) 33 #[.string ⟨#[]⟩, .int .i64 0, .slice none 0 0, .slice none 0 0], Bag.bag (rw_Database y), L4.boxR g1 33 #[.string y.f_Name, .int .i64 y.f_Version, .slice y.f_Stores_a y.f_Stores.length y.f_Stores_c, .slice y.f_Unique_a y.f_Unique.length y.f_Unique_c]]))
 case first =>
  by_cases hk1 : uk = 1
  ·
   subst hk1
   cases ko with
   | some k =>
    have hk0 : ¬ (k : Int) < 0 := by omega
    try simp only [numO_none, numO_some]
    obtain ⟨f0, f1, f2⟩ := Bag.cs3 S10.out 1 rfl
    obtain ⟨f3, f4, f5, f6⟩ := Bag.cs4 S10.out 2 rfl
    obtain ⟨f7, f8, f9, f10⟩ := Bag.cs4 S10.out 4 rfl
    obtain ⟨z0, z1, z2, z3⟩ := Bag.fs4 S10.out 2 rfl
    go_wp2_with fail
    clear f0 f1 f2 f3 f4 f5 f6 f7 f8 f9 f10 z0 z1 z2 z3
    have S11 := Lib.hid (show Sl.Sep w _ [L4.boxR w.heap.size 33 #[.string nm, .int .i64 vr, .slice sa N sc, .slice ua M uc], L4.boxR (w.heap.size + 1) 37 #[.int .i64 1, .string un, .string uf], L4.boxR (w.heap.size + 1 + 1) 33 #[.string nm, .int .i64 vr, .slice a3 N c3, .slice ub M uc3], Sv.ownV 70 3 a3 c3 N (ys.flatMap cl_Store), L4.boxR g1 33 #[.string nm, .int .i64 vr, .slice a3 N c3, .slice ub M uc3], Sv.ownV 73 2 ub uc3 M (vs.flatMap cl_IndexDef), Bag.bag (rws_Store ys)] from L5.put_box5 (L5.put_box5 (L5.put_box5 (L5.put_box5 (S10.out) 2 rfl 0 (.string nm)) 2 rfl 1 (.int .i64 vr)) 2 rfl 2 (.slice a3 N c3)) 2 rfl 3 (.slice ub M uc3))
    clear S10
    obtain ⟨f0, f1, f2, f3⟩ := Bag.cs4 S11.out 2 rfl
    refine bodyPost_ret (v := .tuple #[.agg #[.string nm, .int .i64 vr, .slice a3 N c3, .slice ub M uc3], .bool false]) (by simp [results, Tryz.results8, go_sem, *]) rfl ?_
    clear f0 f1 f2 f3
    have S12 := Lib.hid (show Sl.Sep w _ [_, _, _, Bag.bag ([row_Store a3 c3 ys]), _, _, _] from Bag.bag_of_one S11.out 3 (r := row_Store a3 c3 ys) (by unfold RowS.res row_Store; dsimp only; rw [HYL.out]; rfl))
    clear S11
    have S13 := Lib.hid (show Sl.Sep w _ [_, _, _, _, _, Bag.bag ([row_IndexDef ub uc3 vs]), _] from Bag.bag_of_one S12.out 5 (r := row_IndexDef ub uc3 vs) (by unfold RowS.res row_IndexDef; dsimp only; rw [HVL.out]; rfl))
    clear S12
    have S14 := Lib.hid (show Sl.Sep w _ [_, _, _, Bag.bag ([row_Store a3 c3 ys] ++ (rws_Store ys)), _, _, Bag.bag ([])] from Bag.bag_join S13.out 3 6 (by decide) rfl rfl)
    clear S13
    have S15 := Lib.hid (show Sl.Sep w _ [_, _, _, Bag.bag ([row_Store a3 c3 ys] ++ (rws_Store ys) ++ ([row_IndexDef ub uc3 vs])), _, Bag.bag ([]), Bag.bag ([])] from Bag.bag_join S14.out 3 5 (by decide) rfl rfl)
    clear S14
    obtain ⟨e1, e2⟩ := up_none (raw_ins_no HKO.out)
    rw [e1, e2]
    exact ⟨(⟨nm, vr, a3, c3, ys, ub, uc3, vs⟩ : Y_Database), by unfold vv_Database; dsimp only; rw [HYL.out, HVL.out], by rw [HDC.out]; unfold co_Database; dsimp only; rw [HCE.out]; rfl, Bag.bag_from S15.out 3 rfl, S15.out.old⟩
   | none =>
    try simp only [numO_none, numO_some]
    obtain ⟨f0, f1, f2, f3⟩ := Bag.cs4 S10.out 0 rfl
    obtain ⟨f4, f5, f6⟩ := Bag.cs3 S10.out 1 rfl
    obtain ⟨f7, f8, f9, f10⟩ := Bag.cs4 S10.out 4 rfl
    go_wp2_with fail
    clear f0 f1 f2 f3 f4 f5 f6 f7 f8 f9 f10
    go_loopw [9] (fun i wr => ∃ k : Nat, k ≤ N ∧ i = .int .i64 k ∧ Hid ((∀ j (hj : j < (coS_Store ss).length), j < k → bytesLess (coS_Store ss)[j].name.toList un.toList = true) ∧ Sl.Sep w wr [L4.boxR w.heap.size 33 #[.string nm, .int .i64 vr, .slice sa N sc, .slice ua M uc], L4.boxR (w.heap.size + 1) 37 #[.int .i64 1, .string un, .string uf], L4.boxR (w.heap.size + 1 + 1) 33 #[.string ⟨#[]⟩, .int .i64 0, .slice none 0 0, .slice none 0 0], Sv.ownV 70 3 a3 c3 N (ys.flatMap cl_Store), L4.boxR g1 33 #[.string nm, .int .i64 vr, .slice a3 N c3, .slice ub M uc3], Sv.ownV 73 2 ub uc3 M (vs.flatMap cl_IndexDef), Bag.bag (rws_Store ys)])) (fun i _ => N - (intOf i).toNat)
    case atStart => exact ⟨0, Nat.zero_le _, rfl, And.intro (fun j hj h => absurd h (by omega)) S10.out⟩
    case round =>
     obtain ⟨k, hk, rfl, hrel⟩ := hrel
     have HA := Lib.hid hrel.out.1
     have S11 := Lib.hid hrel.out.2
     clear hrel S10
     by_cases hlt : (k : Int) < (N : Int)
     ·
      skip
      have hkl : k < ss.length := by have := HN.out; omega
      obtain ⟨x, hx⟩ : ∃ x, ss[k]? = some x := ⟨_, List.getElem?_eq_getElem hkl⟩
      obtain ⟨sad, e'⟩ := el_some cl_Store_len (by decide) (HR.out _ S11.out.old) hkl
      subst e'
      have HKx := Lib.hid (fun w' (h : Below w.heap.size w w') => el3 cl_Store_len (HR.out _ h) hx rfl)
      have HRx := Lib.hid (fun w' (h : Below w.heap.size w w') => rd_store (HX.out w' h) hx)
      have HFx := Lib.hid (fit_store HFD.out.stores hx)
      have HCx := Lib.hid (coS_at hx)
      clear hx
      have hci : k < (coS_Store ss).length := by rw [coS_len]; exact hkl
      have HC := Lib.hid (show (coS_Store ss)[k] = x.con from (List.getElem?_eq_some_iff.1 HCx.out).2)
      cases hb : bytesLess x.name.toList un.toList with
      | true =>
       have HLB := Lib.hid (show bytesLess (coS_Store ss)[k].name.toList un.toList = true from by rw [HC.out]; exact hb)
       obtain ⟨f0, f1, f2, f3⟩ := Bag.cs4 S11.out 0 rfl
       obtain ⟨f4, f5, f6⟩ := Bag.cs3 S11.out 1 rfl
       obtain ⟨f7, f8, f9, f10⟩ := Bag.cs4 S11.out 2 rfl
       obtain ⟨f11, f12, f13, f14⟩ := Bag.cs4 S11.out 4 rfl
       obtain ⟨f15, f16, f17⟩ := HKx.out _ S11.out.old
       go_upto_region 7 with fail
       clear f0 f1 f2 f3 f4 f5 f6 f7 f8 f9 f10 f11 f12 f13 f14 f15 f16 f17
       refine wp_region_held_drew (S := (fun w' => (w'.cell? ⟨w.heap.size, 0, none⟩ = some (.string nm) ∧ w'.cell? ⟨w.heap.size, 1, none⟩ = some (.int .i64 vr) ∧ w'.cell? ⟨w.heap.size, 2, none⟩ = some (.slice (some sad) N sc) ∧ w'.cell? ⟨w.heap.size, 3, none⟩ = some (.slice ua M uc)) ∧ (w'.cell? ⟨w.heap.size + 1, 0, none⟩ = some (.int .i64 1) ∧ w'.cell? ⟨w.heap.size + 1, 1, none⟩ = some (.string un) ∧ w'.cell? ⟨w.heap.size + 1, 2, none⟩ = some (.string uf)) ∧ (w'.cell? ⟨w.heap.size + 1 + 1, 0, none⟩ = some (.string ⟨#[]⟩) ∧ w'.cell? ⟨w.heap.size + 1 + 1, 1, none⟩ = some (.int .i64 0) ∧ w'.cell? ⟨w.heap.size + 1 + 1, 2, none⟩ = some (.slice none 0 0) ∧ w'.cell? ⟨w.heap.size + 1 + 1, 3, none⟩ = some (.slice none 0 0)) ∧ (w'.cell? ⟨g1, 0, none⟩ = some (.string nm) ∧ w'.cell? ⟨g1, 1, none⟩ = some (.int .i64 vr) ∧ w'.cell? ⟨g1, 2, none⟩ = some (.slice a3 N c3) ∧ w'.cell? ⟨g1, 3, none⟩ = some (.slice ub M uc3)) ∧ (w'.cell? (sad.add (k * 3)) = some (.string x.name) ∧ w'.cell? (⟨(sad.add (k * 3)).block, (sad.add (k * 3)).off + 1, none⟩) = some (.slice x.a x.xs.length x.c) ∧ w'.cell? (⟨(sad.add (k * 3)).block, (sad.add (k * 3)).off + 2, none⟩) = some (.int .i64 x.auto)))) (by kernel_rfl) ⟨Bag.cs4 (Bag.drew1 S11.out) 0 rfl, Bag.cs3 (Bag.drew1 S11.out) 1 rfl, Bag.cs4 (Bag.drew1 S11.out) 2 rfl, Bag.cs4 (Bag.drew1 S11.out) 4 rfl, HKx.out _ (Bag.drew1 S11.out).old⟩ (fun hS => ?_)
       have S12 := Lib.hid (Bag.drew1 S11.out)
       clear S11
       generalize World.drew _ = w5 at hS S12 ⊢
       refine tk 0 rfl ?_
       try simp only [zp0, zp1, zp2, zp3, zp4]
       refine tk 1 rfl ?_
       try simp only [zp0, zp1, zp2, zp3, zp4]
       refine tk 2 rfl ?_
       try simp only [zp0, zp1, zp2, zp3, zp4]
       refine tk 3 rfl ?_
       try simp only [zp0, zp1, zp2, zp3, zp4]
       refine tk 4 rfl ?_
       try simp only [zp0, zp1, zp2, zp3, zp4]
       refine tk 5 rfl ?_
       try simp only [zp0, zp1, zp2, zp3, zp4]
       refine tk 6 rfl ?_
       try simp only [zp0, zp1, zp2, zp3, zp4]
       refine tk 7 rfl ?_
       try simp only [zp0, zp1, zp2, zp3, zp4]
       refine tk 8 rfl ?_
       try simp only [zp0, zp1, zp2, zp3, zp4]
       refine tk 9 rfl ?_
       try simp only [zp0, zp1, zp2, zp3, zp4]
       refine tk 10 rfl ?_
       try simp only [zp0, zp1, zp2, zp3, zp4]
       refine tk 11 rfl ?_
       try simp only [zp0, zp1, zp2, zp3, zp4]
       refine tk 12 rfl ?_
       try simp only [zp0, zp1, zp2, zp3, zp4]
       refine tk 13 rfl ?_
       try simp only [zp0, zp1, zp2, zp3, zp4]
       refine tk 14 rfl ?_
       try simp only [zp0, zp1, zp2, zp3, zp4]
       refine tk 15 rfl ?_
       try simp only [zp0, zp1, zp2, zp3, zp4]
       refine wpAnyH_done (by kernel_rfl) ?_ _
       obtain ⟨f0, f1, f2, f3⟩ := Bag.cs4 S12.out 0 rfl
       obtain ⟨f4, f5, f6⟩ := Bag.cs3 S12.out 1 rfl
       obtain ⟨f7, f8, f9, f10⟩ := Bag.cs4 S12.out 2 rfl
       obtain ⟨f11, f12, f13, f14⟩ := Bag.cs4 S12.out 4 rfl
       obtain ⟨f15, f16, f17⟩ := HKx.out _ S12.out.old
       go_wp2_with fail
       go_roundw
       case rel => exact ⟨k + 1, by omega, by go_num, And.intro (fun j hj h => by
        by_cases e : j < k
        ·
         exact HA.out j hj e
        ·
         obtain rfl : j = k := by omega
         exact HLB.out) S12.out⟩
       case measure => simp [intOf]; omega
      | false =>
       have HLB := Lib.hid (show bytesLess (coS_Store ss)[k].name.toList un.toList = false from by rw [HC.out]; exact hb)
       obtain ⟨f0, f1, f2, f3⟩ := Bag.cs4 S11.out 0 rfl
       obtain ⟨f4, f5, f6⟩ := Bag.cs3 S11.out 1 rfl
       obtain ⟨f7, f8, f9, f10⟩ := Bag.cs4 S11.out 2 rfl
       obtain ⟨f11, f12, f13, f14⟩ := Bag.cs4 S11.out 4 rfl
       obtain ⟨f15, f16, f17⟩ := HKx.out _ S11.out.old
       go_upto_region 7 with fail
       clear f0 f1 f2 f3 f4 f5 f6 f7 f8 f9 f10 f11 f12 f13 f14 f15 f16 f17
       refine wp_region_held_drew (S := (fun w' => (w'.cell? ⟨w.heap.size, 0, none⟩ = some (.string nm) ∧ w'.cell? ⟨w.heap.size, 1, none⟩ = some (.int .i64 vr) ∧ w'.cell? ⟨w.heap.size, 2, none⟩ = some (.slice (some sad) N sc) ∧ w'.cell? ⟨w.heap.size, 3, none⟩ = some (.slice ua M uc)) ∧ (w'.cell? ⟨w.heap.size + 1, 0, none⟩ = some (.int .i64 1) ∧ w'.cell? ⟨w.heap.size + 1, 1, none⟩ = some (.string un) ∧ w'.cell? ⟨w.heap.size + 1, 2, none⟩ = some (.string uf)) ∧ (w'.cell? ⟨w.heap.size + 1 + 1, 0, none⟩ = some (.string ⟨#[]⟩) ∧ w'.cell? ⟨w.heap.size + 1 + 1, 1, none⟩ = some (.int .i64 0) ∧ w'.cell? ⟨w.heap.size + 1 + 1, 2, none⟩ = some (.slice none 0 0) ∧ w'.cell? ⟨w.heap.size + 1 + 1, 3, none⟩ = some (.slice none 0 0)) ∧ (w'.cell? ⟨g1, 0, none⟩ = some (.string nm) ∧ w'.cell? ⟨g1, 1, none⟩ = some (.int .i64 vr) ∧ w'.cell? ⟨g1, 2, none⟩ = some (.slice a3 N c3) ∧ w'.cell? ⟨g1, 3, none⟩ = some (.slice ub M uc3)) ∧ (w'.cell? (sad.add (k * 3)) = some (.string x.name) ∧ w'.cell? (⟨(sad.add (k * 3)).block, (sad.add (k * 3)).off + 1, none⟩) = some (.slice x.a x.xs.length x.c) ∧ w'.cell? (⟨(sad.add (k * 3)).block, (sad.add (k * 3)).off + 2, none⟩) = some (.int .i64 x.auto)))) (by kernel_rfl) ⟨Bag.cs4 (Bag.drew1 S11.out) 0 rfl, Bag.cs3 (Bag.drew1 S11.out) 1 rfl, Bag.cs4 (Bag.drew1 S11.out) 2 rfl, Bag.cs4 (Bag.drew1 S11.out) 4 rfl, HKx.out _ (Bag.drew1 S11.out).old⟩ (fun hS => ?_)
       have S12 := Lib.hid (Bag.drew1 S11.out)
       clear S11
       generalize World.drew _ = w5 at hS S12 ⊢
       refine tk 0 rfl ?_
       try simp only [zp0, zp1, zp2, zp3, zp4]
       refine tk 1 rfl ?_
       try simp only [zp0, zp1, zp2, zp3, zp4]
       refine tk 2 rfl ?_
       try simp only [zp0, zp1, zp2, zp3, zp4]
       refine tk 3 rfl ?_
       try simp only [zp0, zp1, zp2, zp3, zp4]
       refine tk 4 rfl ?_
       try simp only [zp0, zp1, zp2, zp3, zp4]
       refine tk 5 rfl ?_
       try simp only [zp0, zp1, zp2, zp3, zp4]
       refine tk 6 rfl ?_
       try simp only [zp0, zp1, zp2, zp3, zp4]
       refine tk 7 rfl ?_
       try simp only [zp0, zp1, zp2, zp3, zp4]
       refine tk 8 rfl ?_
       try simp only [zp0, zp1, zp2, zp3, zp4]
       refine tk 9 rfl ?_
       try simp only [zp0, zp1, zp2, zp3, zp4]
       refine tk 10 rfl ?_
       try simp only [zp0, zp1, zp2, zp3, zp4]
       refine tk 11 rfl ?_
       try simp only [zp0, zp1, zp2, zp3, zp4]
       refine tk 12 rfl ?_
       try simp only [zp0, zp1, zp2, zp3, zp4]
       refine tk 13 rfl ?_
       try simp only [zp0, zp1, zp2, zp3, zp4]
       refine tk 14 rfl ?_
       try simp only [zp0, zp1, zp2, zp3, zp4]
       refine tk 15 rfl ?_
       try simp only [zp0, zp1, zp2, zp3, zp4]
       refine wpAnyH_done (by kernel_rfl) ?_ _
       obtain ⟨f0, f1, f2, f3⟩ := Bag.cs4 S12.out 0 rfl
       obtain ⟨f4, f5, f6⟩ := Bag.cs3 S12.out 1 rfl
       obtain ⟨f7, f8, f9, f10⟩ := Bag.cs4 S12.out 2 rfl
       obtain ⟨f11, f12, f13, f14⟩ := Bag.cs4 S12.out 4 rfl
       obtain ⟨f15, f16, f17⟩ := HKx.out _ S12.out.old
       go_upto_region 9 with fail
       clear f0 f1 f2 f3 f4 f5 f6 f7 f8 f9 f10 f11 f12 f13 f14 f15 f16 f17
       have HPOS := Lib.hid (show posS (coS_Store ss) un = k from posS_at k (Nat.le_of_lt hci) HA.out (fun _ => HLB.out))
       have HKN := Lib.hid hk
       have hcap := (Sv.own_at S12.out 3 rfl).cap
       have hkc : (k : Int) ≤ (c3 : Int) := by omega
       have hNc : (N : Int) ≤ (c3 : Int) := by omega
       have hkN' : (k : Int) ≤ (N : Int) := by omega
       have HCP3 := Lib.hid hcap
       clear hcap
       by_cases hck : c3 = k
       ·
        exact absurd hck (by omega)
       ·
        have hck2 : (c3 = k) = False := by simp [hck]
        have HCK := Lib.hid hck
        clear hck hk
        obtain ⟨g9, e9⟩ : ∃ g, a3 = some ⟨g, 0, none⟩ := by
         rcases (Sv.own_at S12.out 3 rfl).form with ⟨_, h0, _, h2⟩ | ⟨g, e, _⟩
         ·
          exact absurd h2 (by have := HCK.out; have := HKN.out; omega)
         ·
          exact ⟨g, e⟩
        subst e9
        have S13 := Lib.hid (show Sl.Sep w _ [_, _, _, Sv.ownV 70 3 (some ⟨g9, 0, none⟩) c3 N (ys.flatMap cl_Store), L4.boxR g1 33 #[.string nm, .int .i64 vr, .slice (some ⟨g9, 0, none⟩) N c3, .slice ub M uc3], _, _, Sv.ownV 70 3 (some ⟨w5.heap.size, 0, none⟩) 0 0 (([] : List LS).flatMap cl_Store)] from Sv.push_own S12.out ((Below.refl _ _).alloc (Nat.le_refl _) _) (OwnV.madeAt w5 70 3 0 w5.heap.size #[] rfl (Nat.le_refl _) rfl (by decide)))
        clear S12
        obtain ⟨f0, f1, f2, f3⟩ := Bag.cs4 S13.out 4 rfl
        go_upto_region 10 with (at_builtin; refine L5.wpList_append_v S13.out 7 rfl rfl _ _ 30 (by rfl) iS (.agg #[.string ⟨#[]⟩, .slice none 0 0, .int .i64 0]) 48 Tryz.underlying30 HIS.out.1 HIS.out.2.1 HIS.out.2.2.1 HIS.out.2.2.2 rfl (by omega) _ (by rfl) rfl _ _ k _ _ ((ys.take k).flatMap cl_Store) (by rfl) rfl (reads_take (Sv.own_at S13.out 3 rfl).reads k) (takeM cl_Store_len (by have := HYL.out; have := HKN.out; omega)) (one_flat cl_Store_one _) (by unfold maxLen; omega) (by omega) ?_; intro a2' c2' w6 hA)
        clear f0 f1 f2 f3
        have S14 := Lib.hid (show Sl.Sep w w6 [L4.boxR w.heap.size 33 #[.string nm, .int .i64 vr, .slice (some sad) N sc, .slice ua M uc], L4.boxR (w.heap.size + 1) 37 #[.int .i64 1, .string un, .string uf], L4.boxR (w.heap.size + 1 + 1) 33 #[.string ⟨#[]⟩, .int .i64 0, .slice none 0 0, .slice none 0 0], Sv.ownV 70 3 (some ⟨g9, 0, none⟩) c3 N (ys.flatMap cl_Store), L4.boxR g1 33 #[.string nm, .int .i64 vr, .slice (some ⟨g9, 0, none⟩) N c3, .slice ub M uc3], Sv.ownV 73 2 ub uc3 M (vs.flatMap cl_IndexDef), Bag.bag (rws_Store ys), Sv.ownV 70 3 a2' c2' k ((ys.take k).flatMap cl_Store)] from (by have h := hA; rw [Nat.zero_add] at h; exact h))
        clear S13
        clear hA
        obtain ⟨f0, f1, f2⟩ := Bag.cs3 S14.out 1 rfl
        have S15 := Lib.hid (show Sl.Sep w _ [_, _, _, _, _, _, _, _, Sv.ownV 70 3 (some ⟨w6.heap.size, 0, none⟩) 1 1 ([(⟨un, none, 0, [], 0⟩ : LS)].flatMap cl_Store)] from Sv.push_own S14.out ((Below.refl _ _).alloc (Nat.le_refl _) _) (OwnV.madeAt w6 70 3 1 w6.heap.size #[.string un, .slice none 0 0, .int .i64 0] rfl (Nat.le_refl _) rfl (by decide)))
        clear S14
        go_upto_region 11 with (at_builtin; refine L5.wpList_append_v S15.out 7 rfl rfl _ _ 30 (by rfl) iS (.agg #[.string ⟨#[]⟩, .slice none 0 0, .int .i64 0]) 48 Tryz.underlying30 HIS.out.1 HIS.out.2.1 HIS.out.2.2.1 HIS.out.2.2.2 rfl (by omega) _ (by rfl) rfl _ _ 1 _ _ ([(⟨un, none, 0, [], 0⟩ : LS)].flatMap cl_Store) (by rfl) rfl (Sv.own_at S15.out 8 rfl).reads rfl (one_flat cl_Store_one _) (by unfold maxLen; omega) (by omega) ?_; intro a3' c3' w7 hA)
        have S16 := Lib.hid (show Sl.Sep w _ [_, _, _, _, _, _, _, Sv.ownV 70 3 a3' c3' (k + 1) ((ys.take k).flatMap cl_Store ++ ([(⟨un, none, 0, [], 0⟩ : LS)].flatMap cl_Store)), _] from hA)
        clear S15
        clear hA
        clear f0 f1 f2
        have S17 := Lib.hid (show Sl.Sep w _ [_, _, _, _, _, _, _, _] from Bag.take S16.out [0, 1, 2, 3, 4, 5, 6, 7] (by rfl) (by decide))
        clear S16
        obtain ⟨f0, f1, f2, f3⟩ := Bag.cs4 S17.out 4 rfl
        go_wp2_with (at_builtin; refine L5.wpList_append_v S17.out 7 rfl rfl _ _ 30 (by rfl) iS (.agg #[.string ⟨#[]⟩, .slice none 0 0, .int .i64 0]) 48 Tryz.underlying30 HIS.out.1 HIS.out.2.1 HIS.out.2.2.1 HIS.out.2.2.2 rfl (by omega) _ (by rfl) rfl _ _ (N - k) _ _ ((ys.drop k).flatMap cl_Store) (by rfl) rfl (by have h := reads_drop (k := k) cl_Store_len (Sv.own_at S17.out 3 rfl).reads (by have := HYL.out; have := HKN.out; omega); exact h) (by rw [dropM cl_Store_len, HYL.out]) (one_flat cl_Store_one _) (by unfold maxLen; omega) (by omega) ?_; intro a4' c4' w8 hA; have y2' := Bag.cell_at hA 4 rfl 2 rfl; have x2' := Bag.free_at hA 4 rfl 2)
        clear y2' x2'
        clear f0 f1 f2 f3
        have S18 := Lib.hid (show Sl.Sep w w8 [_, _, _, _, _, _, _, Sv.ownV 70 3 a4' c4' (k + 1 + (N - k)) (((ys.take k).flatMap cl_Store ++ [(⟨un, none, 0, [], 0⟩ : LS)].flatMap cl_Store) ++ (ys.drop k).flatMap cl_Store)] from hA)
        clear S17
        clear hA
        have S19 := Lib.hid (show Sl.Sep w _ [_, _, _, _, L4.boxR g1 33 #[.string nm, .int .i64 vr, .slice a4' (k + 1 + (N - k)) c4', .slice ub M uc3], _, _, _] from L5.put_box5 (S18.out) 4 rfl 2 (.slice a4' (k + 1 + (N - k)) c4'))
        clear S18
        have hln : k + 1 + (N - k) = N + 1 := by have := HKN.out; omega
        rw [hln] at S19 ⊢
        have S20 := Lib.hid (show Sl.Sep w _ [_, _, _, _, L4.boxR g1 33 #[.string nm, .int .i64 vr, .slice a4' (N + 1) c4', .slice ub M uc3], _, _, Sv.ownV 70 3 a4' c4' (N + 1) ((ys.take k ++ (⟨un, none, 0, [], 0⟩ : LS) :: ys.drop k).flatMap cl_Store)] from (by have h := S19.out; rw [List.append_assoc, ← List.flatMap_append, ← List.flatMap_append] at h; exact h))
        clear S19
        have hlz : (ys.take k ++ (⟨un, none, 0, [], 0⟩ : LS) :: ys.drop k).length = N + 1 := by rw [List.length_append, List.length_cons, List.length_take, List.length_drop, HYL.out]; have := HKN.out; omega
        have S21 := Lib.hid (show Sl.Sep w _ [_, _, _, _, _, _, _] from Bag.take S20.out [0, 1, 2, 7, 4, 5, 6] (by rfl) (by decide))
        clear S20
        have S22 := Lib.hid (show Sl.Sep w _ [_, _, _, _, _, _, _, Bag.bag ([row_Item none 0 []])] from Bag.push_bag S21.out (Below.refl _ _) (Bag.BagOwn.one (OwnV.nil _ _ _ _)))
        clear S21
        have S23 := Lib.hid (show Sl.Sep w _ [_, _, _, _, _, _, Bag.bag (rws_Store ys ++ ([row_Item none 0 []])), Bag.bag ([])] from Bag.bag_join S22.out 6 7 (by decide) rfl rfl)
        clear S22
        have S24 := Lib.hid (show Sl.Sep w _ [L4.boxR w.heap.size 33 #[.string nm, .int .i64 vr, .slice (some sad) N sc, .slice ua M uc], L4.boxR (w.heap.size + 1) 37 #[.int .i64 1, .string un, .string uf], L4.boxR (w.heap.size + 1 + 1) 33 #[.string ⟨#[]⟩, .int .i64 0, .slice none 0 0, .slice none 0 0], Sv.ownV 70 3 a4' c4' (N + 1) ((ys.take k ++ (⟨un, none, 0, [], 0⟩ : LS) :: ys.drop k).flatMap cl_Store), L4.boxR g1 33 #[.string nm, .int .i64 vr, .slice a4' (N + 1) c4', .slice ub M uc3], Sv.ownV 73 2 ub uc3 M (vs.flatMap cl_IndexDef), Bag.bag (rws_Store (ys.take k ++ (⟨un, none, 0, [], 0⟩ : LS) :: ys.drop k)), Bag.bag ([])] from Bag.bag_perm S23.out 6 rfl (rows_insS2 (ys := ys) (z := (⟨un, none, 0, [], 0⟩ : LS)) (k := k)))
        clear S23
        have S25 := Lib.hid (show Sl.Sep w _ [_, _, _, Bag.bag ([row_Store a4' c4' (ys.take k ++ (⟨un, none, 0, [], 0⟩ : LS) :: ys.drop k)]), _, _, _, Bag.bag ([])] from Bag.bag_of_one S24.out 3 (r := row_Store a4' c4' (ys.take k ++ (⟨un, none, 0, [], 0⟩ : LS) :: ys.drop k)) (by unfold RowS.res row_Store; dsimp only; rw [hlz]; rfl))
        clear S24
        have S26 := Lib.hid (show Sl.Sep w _ [_, _, _, _, _, Bag.bag ([row_IndexDef ub uc3 vs]), _, Bag.bag ([])] from Bag.bag_of_one S25.out 5 (r := row_IndexDef ub uc3 vs) (by unfold RowS.res row_IndexDef; dsimp only; rw [HVL.out]; rfl))
        clear S25
        have S27 := Lib.hid (show Sl.Sep w _ [_, _, _, Bag.bag ([row_Store a4' c4' (ys.take k ++ (⟨un, none, 0, [], 0⟩ : LS) :: ys.drop k)] ++ (rws_Store (ys.take k ++ (⟨un, none, 0, [], 0⟩ : LS) :: ys.drop k))), _, _, Bag.bag ([]), Bag.bag ([])] from Bag.bag_join S26.out 3 6 (by decide) rfl rfl)
        clear S26
        have S28 := Lib.hid (show Sl.Sep w _ [_, _, _, Bag.bag ([row_Store a4' c4' (ys.take k ++ (⟨un, none, 0, [], 0⟩ : LS) :: ys.drop k)] ++ (rws_Store (ys.take k ++ (⟨un, none, 0, [], 0⟩ : LS) :: ys.drop k)) ++ ([row_IndexDef ub uc3 vs])), _, Bag.bag ([]), Bag.bag ([]), Bag.bag ([])] from Bag.bag_join S27.out 3 5 (by decide) rfl rfl)
        clear S27
        have S29 := Lib.hid (show Sl.Sep w _ [_, _, _, _, _] from Bag.take S28.out [0, 1, 2, 3, 4] (by rfl) (by decide))
        clear S28
        have HLZ := Lib.hid hlz
        clear hlz hln
        go_meet
        case rel => exact ⟨(⟨nm, vr, a4', c4', (ys.take k ++ (⟨un, none, 0, [], 0⟩ : LS) :: ys.drop k), ub, uc3, vs⟩ : Y_Database), { D with f_Stores := insS D.f_Stores un }, raw_ins HKO.out, by rw [HDC.out]; unfold co_Database; dsimp only; rw [coS_ins2, HCE.out]; unfold insS; rw [HPOS.out]; rfl, Lib.hid (by dsimp only; rw [HLZ.out, HVL.out]; exact S29.out)⟩
     ·
      skip
      obtain ⟨f0, f1, f2, f3⟩ := Bag.cs4 S11.out 0 rfl
      obtain ⟨f4, f5, f6⟩ := Bag.cs3 S11.out 1 rfl
      obtain ⟨f7, f8, f9, f10⟩ := Bag.cs4 S11.out 2 rfl
      obtain ⟨f11, f12, f13, f14⟩ := Bag.cs4 S11.out 4 rfl
      go_upto_region 7 with fail
      clear f0 f1 f2 f3 f4 f5 f6 f7 f8 f9 f10 f11 f12 f13 f14
      refine wp_region_held_drew (S := (fun w' => (w'.cell? ⟨w.heap.size, 0, none⟩ = some (.string nm) ∧ w'.cell? ⟨w.heap.size, 1, none⟩ = some (.int .i64 vr) ∧ w'.cell? ⟨w.heap.size, 2, none⟩ = some (.slice sa N sc) ∧ w'.cell? ⟨w.heap.size, 3, none⟩ = some (.slice ua M uc)) ∧ (w'.cell? ⟨w.heap.size + 1, 0, none⟩ = some (.int .i64 1) ∧ w'.cell? ⟨w.heap.size + 1, 1, none⟩ = some (.string un) ∧ w'.cell? ⟨w.heap.size + 1, 2, none⟩ = some (.string uf)) ∧ (w'.cell? ⟨w.heap.size + 1 + 1, 0, none⟩ = some (.string ⟨#[]⟩) ∧ w'.cell? ⟨w.heap.size + 1 + 1, 1, none⟩ = some (.int .i64 0) ∧ w'.cell? ⟨w.heap.size + 1 + 1, 2, none⟩ = some (.slice none 0 0) ∧ w'.cell? ⟨w.heap.size + 1 + 1, 3, none⟩ = some (.slice none 0 0)) ∧ (w'.cell? ⟨g1, 0, none⟩ = some (.string nm) ∧ w'.cell? ⟨g1, 1, none⟩ = some (.int .i64 vr) ∧ w'.cell? ⟨g1, 2, none⟩ = some (.slice a3 N c3) ∧ w'.cell? ⟨g1, 3, none⟩ = some (.slice ub M uc3)))) (by kernel_rfl) ⟨Bag.cs4 (Bag.drew1 S11.out) 0 rfl, Bag.cs3 (Bag.drew1 S11.out) 1 rfl, Bag.cs4 (Bag.drew1 S11.out) 2 rfl, Bag.cs4 (Bag.drew1 S11.out) 4 rfl⟩ (fun hS => ?_)
      have S12 := Lib.hid (Bag.drew1 S11.out)
      clear S11
      generalize World.drew _ = w5 at hS S12 ⊢
      refine tk 0 rfl ?_
      try simp only [zp0, zp1, zp2, zp3, zp4]
      refine tk 1 rfl ?_
      try simp only [zp0, zp1, zp2, zp3, zp4]
      refine tk 2 rfl ?_
      try simp only [zp0, zp1, zp2, zp3, zp4]
      refine tk 3 rfl ?_
      try simp only [zp0, zp1, zp2, zp3, zp4]
      refine tk 4 rfl ?_
      try simp only [zp0, zp1, zp2, zp3, zp4]
      refine tk 5 rfl ?_
      try simp only [zp0, zp1, zp2, zp3, zp4]
      refine sk 6 rfl ?_
      try simp only [zp0, zp1, zp2, zp3, zp4]
      refine sk 7 rfl ?_
      try simp only [zp0, zp1, zp2, zp3, zp4]
      refine sk 8 rfl ?_
      try simp only [zp0, zp1, zp2, zp3, zp4]
      refine sk 9 rfl ?_
      try simp only [zp0, zp1, zp2, zp3, zp4]
      refine sk 10 rfl ?_
      try simp only [zp0, zp1, zp2, zp3, zp4]
      refine sk 11 rfl ?_
      try simp only [zp0, zp1, zp2, zp3, zp4]
      refine sk 12 rfl ?_
      try simp only [zp0, zp1, zp2, zp3, zp4]
      refine sk 13 rfl ?_
      try simp only [zp0, zp1, zp2, zp3, zp4]
      refine sk 14 rfl ?_
      try simp only [zp0, zp1, zp2, zp3, zp4]
      refine tk 15 rfl ?_
      try simp only [zp0, zp1, zp2, zp3, zp4]
      refine wpAnyH_done (by kernel_rfl) ?_ _
      obtain ⟨f0, f1, f2, f3⟩ := Bag.cs4 S12.out 0 rfl
      obtain ⟨f4, f5, f6⟩ := Bag.cs3 S12.out 1 rfl
      obtain ⟨f7, f8, f9, f10⟩ := Bag.cs4 S12.out 2 rfl
      obtain ⟨f11, f12, f13, f14⟩ := Bag.cs4 S12.out 4 rfl
      go_upto_region 9 with fail
      clear f0 f1 f2 f3 f4 f5 f6 f7 f8 f9 f10 f11 f12 f13 f14
      have HPOS := Lib.hid (show posS (coS_Store ss) un = k from posS_at k (by rw [coS_len, ← HN.out]; exact hk) HA.out (fun h => absurd h (by rw [coS_len, ← HN.out]; omega)))
      have HKN := Lib.hid hk
      have hcap := (Sv.own_at S12.out 3 rfl).cap
      have hkc : (k : Int) ≤ (c3 : Int) := by omega
      have hNc : (N : Int) ≤ (c3 : Int) := by omega
      have hkN' : (k : Int) ≤ (N : Int) := by omega
      have HCP3 := Lib.hid hcap
      clear hcap
      by_cases hck : c3 = k
      ·
       have HCK := Lib.hid hck
       have hck2 : (c3 = k) = True := by simp [hck]
       clear hck hk
       rcases (Sv.own_at S12.out 3 rfl).form with ⟨e9, -, -, -⟩ | ⟨g9, e9, -⟩
       ·
        subst e9
        have S13 := Lib.hid (show Sl.Sep w _ [_, _, _, Sv.ownV 70 3 none c3 N (ys.flatMap cl_Store), L4.boxR g1 33 #[.string nm, .int .i64 vr, .slice none N c3, .slice ub M uc3], _, _, Sv.ownV 70 3 (some ⟨w5.heap.size, 0, none⟩) 0 0 (([] : List LS).flatMap cl_Store)] from Sv.push_own S12.out ((Below.refl _ _).alloc (Nat.le_refl _) _) (OwnV.madeAt w5 70 3 0 w5.heap.size #[] rfl (Nat.le_refl _) rfl (by decide)))
        clear S12
        obtain ⟨f0, f1, f2, f3⟩ := Bag.cs4 S13.out 4 rfl
        go_upto_region 10 with (at_builtin; refine L5.wpList_append_v S13.out 7 rfl rfl _ _ 30 (by rfl) iS (.agg #[.string ⟨#[]⟩, .slice none 0 0, .int .i64 0]) 48 Tryz.underlying30 HIS.out.1 HIS.out.2.1 HIS.out.2.2.1 HIS.out.2.2.2 rfl (by omega) _ (by rfl) rfl _ _ k _ _ ((ys.take k).flatMap cl_Store) (by rfl) rfl (reads_take (Sv.own_at S13.out 3 rfl).reads k) (takeM cl_Store_len (by have := HYL.out; have := HKN.out; omega)) (one_flat cl_Store_one _) (by unfold maxLen; omega) (by omega) ?_; intro a2' c2' w6 hA)
        clear f0 f1 f2 f3
        have S14 := Lib.hid (show Sl.Sep w w6 [L4.boxR w.heap.size 33 #[.string nm, .int .i64 vr, .slice sa N sc, .slice ua M uc], L4.boxR (w.heap.size + 1) 37 #[.int .i64 1, .string un, .string uf], L4.boxR (w.heap.size + 1 + 1) 33 #[.string ⟨#[]⟩, .int .i64 0, .slice none 0 0, .slice none 0 0], Sv.ownV 70 3 none c3 N (ys.flatMap cl_Store), L4.boxR g1 33 #[.string nm, .int .i64 vr, .slice none N c3, .slice ub M uc3], Sv.ownV 73 2 ub uc3 M (vs.flatMap cl_IndexDef), Bag.bag (rws_Store ys), Sv.ownV 70 3 a2' c2' k ((ys.take k).flatMap cl_Store)] from (by have h := hA; rw [Nat.zero_add] at h; exact h))
        clear S13
        clear hA
        obtain ⟨f0, f1, f2⟩ := Bag.cs3 S14.out 1 rfl
        have S15 := Lib.hid (show Sl.Sep w _ [_, _, _, _, _, _, _, _, Sv.ownV 70 3 (some ⟨w6.heap.size, 0, none⟩) 1 1 ([(⟨un, none, 0, [], 0⟩ : LS)].flatMap cl_Store)] from Sv.push_own S14.out ((Below.refl _ _).alloc (Nat.le_refl _) _) (OwnV.madeAt w6 70 3 1 w6.heap.size #[.string un, .slice none 0 0, .int .i64 0] rfl (Nat.le_refl _) rfl (by decide)))
        clear S14
        go_upto_region 11 with (at_builtin; refine L5.wpList_append_v S15.out 7 rfl rfl _ _ 30 (by rfl) iS (.agg #[.string ⟨#[]⟩, .slice none 0 0, .int .i64 0]) 48 Tryz.underlying30 HIS.out.1 HIS.out.2.1 HIS.out.2.2.1 HIS.out.2.2.2 rfl (by omega) _ (by rfl) rfl _ _ 1 _ _ ([(⟨un, none, 0, [], 0⟩ : LS)].flatMap cl_Store) (by rfl) rfl (Sv.own_at S15.out 8 rfl).reads rfl (one_flat cl_Store_one _) (by unfold maxLen; omega) (by omega) ?_; intro a3' c3' w7 hA)
        have S16 := Lib.hid (show Sl.Sep w _ [_, _, _, _, _, _, _, Sv.ownV 70 3 a3' c3' (k + 1) ((ys.take k).flatMap cl_Store ++ ([(⟨un, none, 0, [], 0⟩ : LS)].flatMap cl_Store)), _] from hA)
        clear S15
        clear hA
        clear f0 f1 f2
        have S17 := Lib.hid (show Sl.Sep w _ [_, _, _, _, _, _, _, _] from Bag.take S16.out [0, 1, 2, 3, 4, 5, 6, 7] (by rfl) (by decide))
        clear S16
        obtain ⟨f0, f1, f2, f3⟩ := Bag.cs4 S17.out 4 rfl
        go_wp2_with (at_builtin; refine L5.wpList_append_v S17.out 7 rfl rfl _ _ 30 (by rfl) iS (.agg #[.string ⟨#[]⟩, .slice none 0 0, .int .i64 0]) 48 Tryz.underlying30 HIS.out.1 HIS.out.2.1 HIS.out.2.2.1 HIS.out.2.2.2 rfl (by omega) _ (by rfl) rfl 0 _ (N - k) _ _ ((ys.drop k).flatMap cl_Store) (by rfl) rfl (by rw [List.drop_of_length_le (by have := HYL.out; have := HCK.out; have := HCP3.out; omega)]; exact fun j hj => absurd hj (by simp)) (by rw [dropM cl_Store_len, HYL.out]) (one_flat cl_Store_one _) (by unfold maxLen; omega) (by omega) ?_; intro a4' c4' w8 hA; have y2' := Bag.cell_at hA 4 rfl 2 rfl; have x2' := Bag.free_at hA 4 rfl 2)
        clear y2' x2'
        clear f0 f1 f2 f3
        have S18 := Lib.hid (show Sl.Sep w w8 [_, _, _, _, _, _, _, Sv.ownV 70 3 a4' c4' (k + 1 + (N - k)) (((ys.take k).flatMap cl_Store ++ [(⟨un, none, 0, [], 0⟩ : LS)].flatMap cl_Store) ++ (ys.drop k).flatMap cl_Store)] from hA)
        clear S17
        clear hA
        have S19 := Lib.hid (show Sl.Sep w _ [_, _, _, _, L4.boxR g1 33 #[.string nm, .int .i64 vr, .slice a4' (k + 1 + (N - k)) c4', .slice ub M uc3], _, _, _] from L5.put_box5 (S18.out) 4 rfl 2 (.slice a4' (k + 1 + (N - k)) c4'))
        clear S18
        have hln : k + 1 + (N - k) = N + 1 := by have := HKN.out; omega
        rw [hln] at S19 ⊢
        have S20 := Lib.hid (show Sl.Sep w _ [_, _, _, _, L4.boxR g1 33 #[.string nm, .int .i64 vr, .slice a4' (N + 1) c4', .slice ub M uc3], _, _, Sv.ownV 70 3 a4' c4' (N + 1) ((ys.take k ++ (⟨un, none, 0, [], 0⟩ : LS) :: ys.drop k).flatMap cl_Store)] from (by have h := S19.out; rw [List.append_assoc, ← List.flatMap_append, ← List.flatMap_append] at h; exact h))
        clear S19
        have hlz : (ys.take k ++ (⟨un, none, 0, [], 0⟩ : LS) :: ys.drop k).length = N + 1 := by rw [List.length_append, List.length_cons, List.length_take, List.length_drop, HYL.out]; have := HKN.out; omega
        have S21 := Lib.hid (show Sl.Sep w _ [_, _, _, _, _, _, _] from Bag.take S20.out [0, 1, 2, 7, 4, 5, 6] (by rfl) (by decide))
        clear S20
        have S22 := Lib.hid (show Sl.Sep w _ [_, _, _, _, _, _, _, Bag.bag ([row_Item none 0 []])] from Bag.push_bag S21.out (Below.refl _ _) (Bag.BagOwn.one (OwnV.nil _ _ _ _)))
        clear S21
        have S23 := Lib.hid (show Sl.Sep w _ [_, _, _, _, _, _, Bag.bag (rws_Store ys ++ ([row_Item none 0 []])), Bag.bag ([])] from Bag.bag_join S22.out 6 7 (by decide) rfl rfl)
        clear S22
        have S24 := Lib.hid (show Sl.Sep w _ [L4.boxR w.heap.size 33 #[.string nm, .int .i64 vr, .slice sa N sc, .slice ua M uc], L4.boxR (w.heap.size + 1) 37 #[.int .i64 1, .string un, .string uf], L4.boxR (w.heap.size + 1 + 1) 33 #[.string ⟨#[]⟩, .int .i64 0, .slice none 0 0, .slice none 0 0], Sv.ownV 70 3 a4' c4' (N + 1) ((ys.take k ++ (⟨un, none, 0, [], 0⟩ : LS) :: ys.drop k).flatMap cl_Store), L4.boxR g1 33 #[.string nm, .int .i64 vr, .slice a4' (N + 1) c4', .slice ub M uc3], Sv.ownV 73 2 ub uc3 M (vs.flatMap cl_IndexDef), Bag.bag (rws_Store (ys.take k ++ (⟨un, none, 0, [], 0⟩ : LS) :: ys.drop k)), Bag.bag ([])] from Bag.bag_perm S23.out 6 rfl (rows_insS2 (ys := ys) (z := (⟨un, none, 0, [], 0⟩ : LS)) (k := k)))
        clear S23
        have S25 := Lib.hid (show Sl.Sep w _ [_, _, _, Bag.bag ([row_Store a4' c4' (ys.take k ++ (⟨un, none, 0, [], 0⟩ : LS) :: ys.drop k)]), _, _, _, Bag.bag ([])] from Bag.bag_of_one S24.out 3 (r := row_Store a4' c4' (ys.take k ++ (⟨un, none, 0, [], 0⟩ : LS) :: ys.drop k)) (by unfold RowS.res row_Store; dsimp only; rw [hlz]; rfl))
        clear S24
        have S26 := Lib.hid (show Sl.Sep w _ [_, _, _, _, _, Bag.bag ([row_IndexDef ub uc3 vs]), _, Bag.bag ([])] from Bag.bag_of_one S25.out 5 (r := row_IndexDef ub uc3 vs) (by unfold RowS.res row_IndexDef; dsimp only; rw [HVL.out]; rfl))
        clear S25
        have S27 := Lib.hid (show Sl.Sep w _ [_, _, _, Bag.bag ([row_Store a4' c4' (ys.take k ++ (⟨un, none, 0, [], 0⟩ : LS) :: ys.drop k)] ++ (rws_Store (ys.take k ++ (⟨un, none, 0, [], 0⟩ : LS) :: ys.drop k))), _, _, Bag.bag ([]), Bag.bag ([])] from Bag.bag_join S26.out 3 6 (by decide) rfl rfl)
        clear S26
        have S28 := Lib.hid (show Sl.Sep w _ [_, _, _, Bag.bag ([row_Store a4' c4' (ys.take k ++ (⟨un, none, 0, [], 0⟩ : LS) :: ys.drop k)] ++ (rws_Store (ys.take k ++ (⟨un, none, 0, [], 0⟩ : LS) :: ys.drop k)) ++ ([row_IndexDef ub uc3 vs])), _, Bag.bag ([]), Bag.bag ([]), Bag.bag ([])] from Bag.bag_join S27.out 3 5 (by decide) rfl rfl)
        clear S27
        have S29 := Lib.hid (show Sl.Sep w _ [_, _, _, _, _] from Bag.take S28.out [0, 1, 2, 3, 4] (by rfl) (by decide))
        clear S28
        have HLZ := Lib.hid hlz
        clear hlz hln
        go_meet
        case rel => exact ⟨(⟨nm, vr, a4', c4', (ys.take k ++ (⟨un, none, 0, [], 0⟩ : LS) :: ys.drop k), ub, uc3, vs⟩ : Y_Database), { D with f_Stores := insS D.f_Stores un }, raw_ins HKO.out, by rw [HDC.out]; unfold co_Database; dsimp only; rw [coS_ins2, HCE.out]; unfold insS; rw [HPOS.out]; rfl, Lib.hid (by dsimp only; rw [HLZ.out, HVL.out]; exact S29.out)⟩
       ·
        subst e9
        have S13 := Lib.hid (show Sl.Sep w _ [_, _, _, Sv.ownV 70 3 (some ⟨g9, 0, none⟩) c3 N (ys.flatMap cl_Store), L4.boxR g1 33 #[.string nm, .int .i64 vr, .slice (some ⟨g9, 0, none⟩) N c3, .slice ub M uc3], _, _, Sv.ownV 70 3 (some ⟨w5.heap.size, 0, none⟩) 0 0 (([] : List LS).flatMap cl_Store)] from Sv.push_own S12.out ((Below.refl _ _).alloc (Nat.le_refl _) _) (OwnV.madeAt w5 70 3 0 w5.heap.size #[] rfl (Nat.le_refl _) rfl (by decide)))
        clear S12
        obtain ⟨f0, f1, f2, f3⟩ := Bag.cs4 S13.out 4 rfl
        go_upto_region 10 with (at_builtin; refine L5.wpList_append_v S13.out 7 rfl rfl _ _ 30 (by rfl) iS (.agg #[.string ⟨#[]⟩, .slice none 0 0, .int .i64 0]) 48 Tryz.underlying30 HIS.out.1 HIS.out.2.1 HIS.out.2.2.1 HIS.out.2.2.2 rfl (by omega) _ (by rfl) rfl _ _ k _ _ ((ys.take k).flatMap cl_Store) (by rfl) rfl (reads_take (Sv.own_at S13.out 3 rfl).reads k) (takeM cl_Store_len (by have := HYL.out; have := HKN.out; omega)) (one_flat cl_Store_one _) (by unfold maxLen; omega) (by omega) ?_; intro a2' c2' w6 hA)
        clear f0 f1 f2 f3
        have S14 := Lib.hid (show Sl.Sep w w6 [L4.boxR w.heap.size 33 #[.string nm, .int .i64 vr, .slice sa N sc, .slice ua M uc], L4.boxR (w.heap.size + 1) 37 #[.int .i64 1, .string un, .string uf], L4.boxR (w.heap.size + 1 + 1) 33 #[.string ⟨#[]⟩, .int .i64 0, .slice none 0 0, .slice none 0 0], Sv.ownV 70 3 (some ⟨g9, 0, none⟩) c3 N (ys.flatMap cl_Store), L4.boxR g1 33 #[.string nm, .int .i64 vr, .slice (some ⟨g9, 0, none⟩) N c3, .slice ub M uc3], Sv.ownV 73 2 ub uc3 M (vs.flatMap cl_IndexDef), Bag.bag (rws_Store ys), Sv.ownV 70 3 a2' c2' k ((ys.take k).flatMap cl_Store)] from (by have h := hA; rw [Nat.zero_add] at h; exact h))
        clear S13
        clear hA
        obtain ⟨f0, f1, f2⟩ := Bag.cs3 S14.out 1 rfl
        have S15 := Lib.hid (show Sl.Sep w _ [_, _, _, _, _, _, _, _, Sv.ownV 70 3 (some ⟨w6.heap.size, 0, none⟩) 1 1 ([(⟨un, none, 0, [], 0⟩ : LS)].flatMap cl_Store)] from Sv.push_own S14.out ((Below.refl _ _).alloc (Nat.le_refl _) _) (OwnV.madeAt w6 70 3 1 w6.heap.size #[.string un, .slice none 0 0, .int .i64 0] rfl (Nat.le_refl _) rfl (by decide)))
        clear S14
        go_upto_region 11 with (at_builtin; refine L5.wpList_append_v S15.out 7 rfl rfl _ _ 30 (by rfl) iS (.agg #[.string ⟨#[]⟩, .slice none 0 0, .int .i64 0]) 48 Tryz.underlying30 HIS.out.1 HIS.out.2.1 HIS.out.2.2.1 HIS.out.2.2.2 rfl (by omega) _ (by rfl) rfl _ _ 1 _ _ ([(⟨un, none, 0, [], 0⟩ : LS)].flatMap cl_Store) (by rfl) rfl (Sv.own_at S15.out 8 rfl).reads rfl (one_flat cl_Store_one _) (by unfold maxLen; omega) (by omega) ?_; intro a3' c3' w7 hA)
        have S16 := Lib.hid (show Sl.Sep w _ [_, _, _, _, _, _, _, Sv.ownV 70 3 a3' c3' (k + 1) ((ys.take k).flatMap cl_Store ++ ([(⟨un, none, 0, [], 0⟩ : LS)].flatMap cl_Store)), _] from hA)
        clear S15
        clear hA
        clear f0 f1 f2
        have S17 := Lib.hid (show Sl.Sep w _ [_, _, _, _, _, _, _, _] from Bag.take S16.out [0, 1, 2, 3, 4, 5, 6, 7] (by rfl) (by decide))
        clear S16
        obtain ⟨f0, f1, f2, f3⟩ := Bag.cs4 S17.out 4 rfl
        go_wp2_with (at_builtin; refine L5.wpList_append_v S17.out 7 rfl rfl _ _ 30 (by rfl) iS (.agg #[.string ⟨#[]⟩, .slice none 0 0, .int .i64 0]) 48 Tryz.underlying30 HIS.out.1 HIS.out.2.1 HIS.out.2.2.1 HIS.out.2.2.2 rfl (by omega) _ (by rfl) rfl 0 _ (N - k) _ _ ((ys.drop k).flatMap cl_Store) (by rfl) rfl (by rw [List.drop_of_length_le (by have := HYL.out; have := HCK.out; have := HCP3.out; omega)]; exact fun j hj => absurd hj (by simp)) (by rw [dropM cl_Store_len, HYL.out]) (one_flat cl_Store_one _) (by unfold maxLen; omega) (by omega) ?_; intro a4' c4' w8 hA; have y2' := Bag.cell_at hA 4 rfl 2 rfl; have x2' := Bag.free_at hA 4 rfl 2)
        clear y2' x2'
        clear f0 f1 f2 f3
        have S18 := Lib.hid (show Sl.Sep w w8 [_, _, _, _, _, _, _, Sv.ownV 70 3 a4' c4' (k + 1 + (N - k)) (((ys.take k).flatMap cl_Store ++ [(⟨un, none, 0, [], 0⟩ : LS)].flatMap cl_Store) ++ (ys.drop k).flatMap cl_Store)] from hA)
        clear S17
        clear hA
        have S19 := Lib.hid (show Sl.Sep w _ [_, _, _, _, L4.boxR g1 33 #[.string nm, .int .i64 vr, .slice a4' (k + 1 + (N - k)) c4', .slice ub M uc3], _, _, _] from L5.put_box5 (S18.out) 4 rfl 2 (.slice a4' (k + 1 + (N - k)) c4'))
        clear S18
        have hln : k + 1 + (N - k) = N + 1 := by have := HKN.out; omega
        rw [hln] at S19 ⊢
        have S20 := Lib.hid (show Sl.Sep w _ [_, _, _, _, L4.boxR g1 33 #[.string nm, .int .i64 vr, .slice a4' (N + 1) c4', .slice ub M uc3], _, _, Sv.ownV 70 3 a4' c4' (N + 1) ((ys.take k ++ (⟨un, none, 0, [], 0⟩ : LS) :: ys.drop k).flatMap cl_Store)] from (by have h := S19.out; rw [List.append_assoc, ← List.flatMap_append, ← List.flatMap_append] at h; exact h))
        clear S19
        have hlz : (ys.take k ++ (⟨un, none, 0, [], 0⟩ : LS) :: ys.drop k).length = N + 1 := by rw [List.length_append, List.length_cons, List.length_take, List.length_drop, HYL.out]; have := HKN.out; omega
        have S21 := Lib.hid (show Sl.Sep w _ [_, _, _, _, _, _, _] from Bag.take S20.out [0, 1, 2, 7, 4, 5, 6] (by rfl) (by decide))
        clear S20
        have S22 := Lib.hid (show Sl.Sep w _ [_, _, _, _, _, _, _, Bag.bag ([row_Item none 0 []])] from Bag.push_bag S21.out (Below.refl _ _) (Bag.BagOwn.one (OwnV.nil _ _ _ _)))
        clear S21
        have S23 := Lib.hid (show Sl.Sep w _ [_, _, _, _, _, _, Bag.bag (rws_Store ys ++ ([row_Item none 0 []])), Bag.bag ([])] from Bag.bag_join S22.out 6 7 (by decide) rfl rfl)
        clear S22
        have S24 := Lib.hid (show Sl.Sep w _ [L4.boxR w.heap.size 33 #[.string nm, .int .i64 vr, .slice sa N sc, .slice ua M uc], L4.boxR (w.heap.size + 1) 37 #[.int .i64 1, .string un, .string uf], L4.boxR (w.heap.size + 1 + 1) 33 #[.string ⟨#[]⟩, .int .i64 0, .slice none 0 0, .slice none 0 0], Sv.ownV 70 3 a4' c4' (N + 1) ((ys.take k ++ (⟨un, none, 0, [], 0⟩ : LS) :: ys.drop k).flatMap cl_Store), L4.boxR g1 33 #[.string nm, .int .i64 vr, .slice a4' (N + 1) c4', .slice ub M uc3], Sv.ownV 73 2 ub uc3 M (vs.flatMap cl_IndexDef), Bag.bag (rws_Store (ys.take k ++ (⟨un, none, 0, [], 0⟩ : LS) :: ys.drop k)), Bag.bag ([])] from Bag.bag_perm S23.out 6 rfl (rows_insS2 (ys := ys) (z := (⟨un, none, 0, [], 0⟩ : LS)) (k := k)))
        clear S23
        have S25 := Lib.hid (show Sl.Sep w _ [_, _, _, Bag.bag ([row_Store a4' c4' (ys.take k ++ (⟨un, none, 0, [], 0⟩ : LS) :: ys.drop k)]), _, _, _, Bag.bag ([])] from Bag.bag_of_one S24.out 3 (r := row_Store a4' c4' (ys.take k ++ (⟨un, none, 0, [], 0⟩ : LS) :: ys.drop k)) (by unfold RowS.res row_Store; dsimp only; rw [hlz]; rfl))
        clear S24
        have S26 := Lib.hid (show Sl.Sep w _ [_, _, _, _, _, Bag.bag ([row_IndexDef ub uc3 vs]), _, Bag.bag ([])] from Bag.bag_of_one S25.out 5 (r := row_IndexDef ub uc3 vs) (by unfold RowS.res row_IndexDef; dsimp only; rw [HVL.out]; rfl))
        clear S25
        have S27 := Lib.hid (show Sl.Sep w _ [_, _, _, Bag.bag ([row_Store a4' c4' (ys.take k ++ (⟨un, none, 0, [], 0⟩ : LS) :: ys.drop k)] ++ (rws_Store (ys.take k ++ (⟨un, none, 0, [], 0⟩ : LS) :: ys.drop k))), _, _, Bag.bag ([]), Bag.bag ([])] from Bag.bag_join S26.out 3 6 (by decide) rfl rfl)
        clear S26
        have S28 := Lib.hid (show Sl.Sep w _ [_, _, _, Bag.bag ([row_Store a4' c4' (ys.take k ++ (⟨un, none, 0, [], 0⟩ : LS) :: ys.drop k)] ++ (rws_Store (ys.take k ++ (⟨un, none, 0, [], 0⟩ : LS) :: ys.drop k)) ++ ([row_IndexDef ub uc3 vs])), _, Bag.bag ([]), Bag.bag ([]), Bag.bag ([])] from Bag.bag_join S27.out 3 5 (by decide) rfl rfl)
        clear S27
        have S29 := Lib.hid (show Sl.Sep w _ [_, _, _, _, _] from Bag.take S28.out [0, 1, 2, 3, 4] (by rfl) (by decide))
        clear S28
        have HLZ := Lib.hid hlz
        clear hlz hln
        go_meet
        case rel => exact ⟨(⟨nm, vr, a4', c4', (ys.take k ++ (⟨un, none, 0, [], 0⟩ : LS) :: ys.drop k), ub, uc3, vs⟩ : Y_Database), { D with f_Stores := insS D.f_Stores un }, raw_ins HKO.out, by rw [HDC.out]; unfold co_Database; dsimp only; rw [coS_ins2, HCE.out]; unfold insS; rw [HPOS.out]; rfl, Lib.hid (by dsimp only; rw [HLZ.out, HVL.out]; exact S29.out)⟩
      ·
       have hck2 : (c3 = k) = False := by simp [hck]
       have HCK := Lib.hid hck
       clear hck hk
       obtain ⟨g9, e9⟩ : ∃ g, a3 = some ⟨g, 0, none⟩ := by
        rcases (Sv.own_at S12.out 3 rfl).form with ⟨_, h0, _, h2⟩ | ⟨g, e, _⟩
        ·
         exact absurd h2 (by have := HCK.out; have := HKN.out; omega)
        ·
         exact ⟨g, e⟩
       subst e9
       have S13 := Lib.hid (show Sl.Sep w _ [_, _, _, Sv.ownV 70 3 (some ⟨g9, 0, none⟩) c3 N (ys.flatMap cl_Store), L4.boxR g1 33 #[.string nm, .int .i64 vr, .slice (some ⟨g9, 0, none⟩) N c3, .slice ub M uc3], _, _, Sv.ownV 70 3 (some ⟨w5.heap.size, 0, none⟩) 0 0 (([] : List LS).flatMap cl_Store)] from Sv.push_own S12.out ((Below.refl _ _).alloc (Nat.le_refl _) _) (OwnV.madeAt w5 70 3 0 w5.heap.size #[] rfl (Nat.le_refl _) rfl (by decide)))
       clear S12
       obtain ⟨f0, f1, f2, f3⟩ := Bag.cs4 S13.out 4 rfl
       go_upto_region 10 with (at_builtin; refine L5.wpList_append_v S13.out 7 rfl rfl _ _ 30 (by rfl) iS (.agg #[.string ⟨#[]⟩, .slice none 0 0, .int .i64 0]) 48 Tryz.underlying30 HIS.out.1 HIS.out.2.1 HIS.out.2.2.1 HIS.out.2.2.2 rfl (by omega) _ (by rfl) rfl _ _ k _ _ ((ys.take k).flatMap cl_Store) (by rfl) rfl (reads_take (Sv.own_at S13.out 3 rfl).reads k) (takeM cl_Store_len (by have := HYL.out; have := HKN.out; omega)) (one_flat cl_Store_one _) (by unfold maxLen; omega) (by omega) ?_; intro a2' c2' w6 hA)
       clear f0 f1 f2 f3
       have S14 := Lib.hid (show Sl.Sep w w6 [L4.boxR w.heap.size 33 #[.string nm, .int .i64 vr, .slice sa N sc, .slice ua M uc], L4.boxR (w.heap.size + 1) 37 #[.int .i64 1, .string un, .string uf], L4.boxR (w.heap.size + 1 + 1) 33 #[.string ⟨#[]⟩, .int .i64 0, .slice none 0 0, .slice none 0 0], Sv.ownV 70 3 (some ⟨g9, 0, none⟩) c3 N (ys.flatMap cl_Store), L4.boxR g1 33 #[.string nm, .int .i64 vr, .slice (some ⟨g9, 0, none⟩) N c3, .slice ub M uc3], Sv.ownV 73 2 ub uc3 M (vs.flatMap cl_IndexDef), Bag.bag (rws_Store ys), Sv.ownV 70 3 a2' c2' k ((ys.take k).flatMap cl_Store)] from (by have h := hA; rw [Nat.zero_add] at h; exact h))
       clear S13
       clear hA
       obtain ⟨f0, f1, f2⟩ := Bag.cs3 S14.out 1 rfl
       have S15 := Lib.hid (show Sl.Sep w _ [_, _, _, _, _, _, _, _, Sv.ownV 70 3 (some ⟨w6.heap.size, 0, none⟩) 1 1 ([(⟨un, none, 0, [], 0⟩ : LS)].flatMap cl_Store)] from Sv.push_own S14.out ((Below.refl _ _).alloc (Nat.le_refl _) _) (OwnV.madeAt w6 70 3 1 w6.heap.size #[.string un, .slice none 0 0, .int .i64 0] rfl (Nat.le_refl _) rfl (by decide)))
       clear S14
       go_upto_region 11 with (at_builtin; refine L5.wpList_append_v S15.out 7 rfl rfl _ _ 30 (by rfl) iS (.agg #[.string ⟨#[]⟩, .slice none 0 0, .int .i64 0]) 48 Tryz.underlying30 HIS.out.1 HIS.out.2.1 HIS.out.2.2.1 HIS.out.2.2.2 rfl (by omega) _ (by rfl) rfl _ _ 1 _ _ ([(⟨un, none, 0, [], 0⟩ : LS)].flatMap cl_Store) (by rfl) rfl (Sv.own_at S15.out 8 rfl).reads rfl (one_flat cl_Store_one _) (by unfold maxLen; omega) (by omega) ?_; intro a3' c3' w7 hA)
       have S16 := Lib.hid (show Sl.Sep w _ [_, _, _, _, _, _, _, Sv.ownV 70 3 a3' c3' (k + 1) ((ys.take k).flatMap cl_Store ++ ([(⟨un, none, 0, [], 0⟩ : LS)].flatMap cl_Store)), _] from hA)
       clear S15
       clear hA
       clear f0 f1 f2
       have S17 := Lib.hid (show Sl.Sep w _ [_, _, _, _, _, _, _, _] from Bag.take S16.out [0, 1, 2, 3, 4, 5, 6, 7] (by rfl) (by decide))
       clear S16
       obtain ⟨f0, f1, f2, f3⟩ := Bag.cs4 S17.out 4 rfl
       go_wp2_with (at_builtin; refine L5.wpList_append_v S17.out 7 rfl rfl _ _ 30 (by rfl) iS (.agg #[.string ⟨#[]⟩, .slice none 0 0, .int .i64 0]) 48 Tryz.underlying30 HIS.out.1 HIS.out.2.1 HIS.out.2.2.1 HIS.out.2.2.2 rfl (by omega) _ (by rfl) rfl _ _ (N - k) _ _ ((ys.drop k).flatMap cl_Store) (by rfl) rfl (by have h := reads_drop (k := k) cl_Store_len (Sv.own_at S17.out 3 rfl).reads (by have := HYL.out; have := HKN.out; omega); exact h) (by rw [dropM cl_Store_len, HYL.out]) (one_flat cl_Store_one _) (by unfold maxLen; omega) (by omega) ?_; intro a4' c4' w8 hA; have y2' := Bag.cell_at hA 4 rfl 2 rfl; have x2' := Bag.free_at hA 4 rfl 2)
       clear y2' x2'
       clear f0 f1 f2 f3
       have S18 := Lib.hid (show Sl.Sep w w8 [_, _, _, _, _, _, _, Sv.ownV 70 3 a4' c4' (k + 1 + (N - k)) (((ys.take k).flatMap cl_Store ++ [(⟨un, none, 0, [], 0⟩ : LS)].flatMap cl_Store) ++ (ys.drop k).flatMap cl_Store)] from hA)
       clear S17
       clear hA
       have S19 := Lib.hid (show Sl.Sep w _ [_, _, _, _, L4.boxR g1 33 #[.string nm, .int .i64 vr, .slice a4' (k + 1 + (N - k)) c4', .slice ub M uc3], _, _, _] from L5.put_box5 (S18.out) 4 rfl 2 (.slice a4' (k + 1 + (N - k)) c4'))
       clear S18
       have hln : k + 1 + (N - k) = N + 1 := by have := HKN.out; omega
       rw [hln] at S19 ⊢
       have S20 := Lib.hid (show Sl.Sep w _ [_, _, _, _, L4.boxR g1 33 #[.string nm, .int .i64 vr, .slice a4' (N + 1) c4', .slice ub M uc3], _, _, Sv.ownV 70 3 a4' c4' (N + 1) ((ys.take k ++ (⟨un, none, 0, [], 0⟩ : LS) :: ys.drop k).flatMap cl_Store)] from (by have h := S19.out; rw [List.append_assoc, ← List.flatMap_append, ← List.flatMap_append] at h; exact h))
       clear S19
       have hlz : (ys.take k ++ (⟨un, none, 0, [], 0⟩ : LS) :: ys.drop k).length = N + 1 := by rw [List.length_append, List.length_cons, List.length_take, List.length_drop, HYL.out]; have := HKN.out; omega
       have S21 := Lib.hid (show Sl.Sep w _ [_, _, _, _, _, _, _] from Bag.take S20.out [0, 1, 2, 7, 4, 5, 6] (by rfl) (by decide))
       clear S20
       have S22 := Lib.hid (show Sl.Sep w _ [_, _, _, _, _, _, _, Bag.bag ([row_Item none 0 []])] from Bag.push_bag S21.out (Below.refl _ _) (Bag.BagOwn.one (OwnV.nil _ _ _ _)))
       clear S21
       have S23 := Lib.hid (show Sl.Sep w _ [_, _, _, _, _, _, Bag.bag (rws_Store ys ++ ([row_Item none 0 []])), Bag.bag ([])] from Bag.bag_join S22.out 6 7 (by decide) rfl rfl)
       clear S22
       have S24 := Lib.hid (show Sl.Sep w _ [L4.boxR w.heap.size 33 #[.string nm, .int .i64 vr, .slice sa N sc, .slice ua M uc], L4.boxR (w.heap.size + 1) 37 #[.int .i64 1, .string un, .string uf], L4.boxR (w.heap.size + 1 + 1) 33 #[.string ⟨#[]⟩, .int .i64 0, .slice none 0 0, .slice none 0 0], Sv.ownV 70 3 a4' c4' (N + 1) ((ys.take k ++ (⟨un, none, 0, [], 0⟩ : LS) :: ys.drop k).flatMap cl_Store), L4.boxR g1 33 #[.string nm, .int .i64 vr, .slice a4' (N + 1) c4', .slice ub M uc3], Sv.ownV 73 2 ub uc3 M (vs.flatMap cl_IndexDef), Bag.bag (rws_Store (ys.take k ++ (⟨un, none, 0, [], 0⟩ : LS) :: ys.drop k)), Bag.bag ([])] from Bag.bag_perm S23.out 6 rfl (rows_insS2 (ys := ys) (z := (⟨un, none, 0, [], 0⟩ : LS)) (k := k)))
       clear S23
       have S25 := Lib.hid (show Sl.Sep w _ [_, _, _, Bag.bag ([row_Store a4' c4' (ys.take k ++ (⟨un, none, 0, [], 0⟩ : LS) :: ys.drop k)]), _, _, _, Bag.bag ([])] from Bag.bag_of_one S24.out 3 (r := row_Store a4' c4' (ys.take k ++ (⟨un, none, 0, [], 0⟩ : LS) :: ys.drop k)) (by unfold RowS.res row_Store; dsimp only; rw [hlz]; rfl))
       clear S24
       have S26 := Lib.hid (show Sl.Sep w _ [_, _, _, _, _, Bag.bag ([row_IndexDef ub uc3 vs]), _, Bag.bag ([])] from Bag.bag_of_one S25.out 5 (r := row_IndexDef ub uc3 vs) (by unfold RowS.res row_IndexDef; dsimp only; rw [HVL.out]; rfl))
       clear S25
       have S27 := Lib.hid (show Sl.Sep w _ [_, _, _, Bag.bag ([row_Store a4' c4' (ys.take k ++ (⟨un, none, 0, [], 0⟩ : LS) :: ys.drop k)] ++ (rws_Store (ys.take k ++ (⟨un, none, 0, [], 0⟩ : LS) :: ys.drop k))), _, _, Bag.bag ([]), Bag.bag ([])] from Bag.bag_join S26.out 3 6 (by decide) rfl rfl)
       clear S26
       have S28 := Lib.hid (show Sl.Sep w _ [_, _, _, Bag.bag ([row_Store a4' c4' (ys.take k ++ (⟨un, none, 0, [], 0⟩ : LS) :: ys.drop k)] ++ (rws_Store (ys.take k ++ (⟨un, none, 0, [], 0⟩ : LS) :: ys.drop k)) ++ ([row_IndexDef ub uc3 vs])), _, Bag.bag ([]), Bag.bag ([]), Bag.bag ([])] from Bag.bag_join S27.out 3 5 (by decide) rfl rfl)
       clear S27
       have S29 := Lib.hid (show Sl.Sep w _ [_, _, _, _, _] from Bag.take S28.out [0, 1, 2, 3, 4] (by rfl) (by decide))
       clear S28
       have HLZ := Lib.hid hlz
       clear hlz hln
       go_meet
       case rel => exact ⟨(⟨nm, vr, a4', c4', (ys.take k ++ (⟨un, none, 0, [], 0⟩ : LS) :: ys.drop k), ub, uc3, vs⟩ : Y_Database), { D with f_Stores := insS D.f_Stores un }, raw_ins HKO.out, by rw [HDC.out]; unfold co_Database; dsimp only; rw [coS_ins2, HCE.out]; unfold insS; rw [HPOS.out]; rfl, Lib.hid (by dsimp only; rw [HLZ.out, HVL.out]; exact S29.out)⟩
  have hb1 : (uk == 1) = false := by simpa using hk1
  by_cases hk2 : uk = 2
  ·
   subst hk2
   cases ko with
   | none =>
    try simp only [numO_none, numO_some]
    obtain ⟨f0, f1, f2⟩ := Bag.cs3 S10.out 1 rfl
    obtain ⟨f3, f4, f5, f6⟩ := Bag.cs4 S10.out 2 rfl
    obtain ⟨f7, f8, f9, f10⟩ := Bag.cs4 S10.out 4 rfl
    obtain ⟨z0, z1, z2, z3⟩ := Bag.fs4 S10.out 2 rfl
    go_wp2_with fail
    clear f0 f1 f2 f3 f4 f5 f6 f7 f8 f9 f10 z0 z1 z2 z3
    have S11 := Lib.hid (show Sl.Sep w _ [L4.boxR w.heap.size 33 #[.string nm, .int .i64 vr, .slice sa N sc, .slice ua M uc], L4.boxR (w.heap.size + 1) 37 #[.int .i64 2, .string un, .string uf], L4.boxR (w.heap.size + 1 + 1) 33 #[.string nm, .int .i64 vr, .slice a3 N c3, .slice ub M uc3], Sv.ownV 70 3 a3 c3 N (ys.flatMap cl_Store), L4.boxR g1 33 #[.string nm, .int .i64 vr, .slice a3 N c3, .slice ub M uc3], Sv.ownV 73 2 ub uc3 M (vs.flatMap cl_IndexDef), Bag.bag (rws_Store ys)] from L5.put_box5 (L5.put_box5 (L5.put_box5 (L5.put_box5 (S10.out) 2 rfl 0 (.string nm)) 2 rfl 1 (.int .i64 vr)) 2 rfl 2 (.slice a3 N c3)) 2 rfl 3 (.slice ub M uc3))
    clear S10
    obtain ⟨f0, f1, f2, f3⟩ := Bag.cs4 S11.out 2 rfl
    refine bodyPost_ret (v := .tuple #[.agg #[.string nm, .int .i64 vr, .slice a3 N c3, .slice ub M uc3], .bool false]) (by simp [results, Tryz.results8, go_sem, *]) rfl ?_
    clear f0 f1 f2 f3
    have S12 := Lib.hid (show Sl.Sep w _ [_, _, _, Bag.bag ([row_Store a3 c3 ys]), _, _, _] from Bag.bag_of_one S11.out 3 (r := row_Store a3 c3 ys) (by unfold RowS.res row_Store; dsimp only; rw [HYL.out]; rfl))
    clear S11
    have S13 := Lib.hid (show Sl.Sep w _ [_, _, _, _, _, Bag.bag ([row_IndexDef ub uc3 vs]), _] from Bag.bag_of_one S12.out 5 (r := row_IndexDef ub uc3 vs) (by unfold RowS.res row_IndexDef; dsimp only; rw [HVL.out]; rfl))
    clear S12
    have S14 := Lib.hid (show Sl.Sep w _ [_, _, _, Bag.bag ([row_Store a3 c3 ys] ++ (rws_Store ys)), _, _, Bag.bag ([])] from Bag.bag_join S13.out 3 6 (by decide) rfl rfl)
    clear S13
    have S15 := Lib.hid (show Sl.Sep w _ [_, _, _, Bag.bag ([row_Store a3 c3 ys] ++ (rws_Store ys) ++ ([row_IndexDef ub uc3 vs])), _, Bag.bag ([]), Bag.bag ([])] from Bag.bag_join S14.out 3 5 (by decide) rfl rfl)
    clear S14
    obtain ⟨e1, e2⟩ := up_none (raw_drop_no HKO.out)
    rw [e1, e2]
    exact ⟨(⟨nm, vr, a3, c3, ys, ub, uc3, vs⟩ : Y_Database), by unfold vv_Database; dsimp only; rw [HYL.out, HVL.out], by rw [HDC.out]; unfold co_Database; dsimp only; rw [HCE.out]; rfl, Bag.bag_from S15.out 3 rfl, S15.out.old⟩
   | some k =>
    have hk0 : (0 : Int) ≤ (k : Int) := by omega
    try simp only [numO_none, numO_some]
    obtain ⟨f0, f1, f2, f3⟩ := Bag.cs4 S10.out 0 rfl
    obtain ⟨f4, f5, f6⟩ := Bag.cs3 S10.out 1 rfl
    obtain ⟨f7, f8, f9, f10⟩ := Bag.cs4 S10.out 4 rfl
    go_wp2_with fail
    go_at_call 33
    refine (HDR.out _ S10.out.old).mono ?_
    rintro e w5 ⟨y5, rfl, hcy, ho, hb⟩
    clear f0 f1 f2 f3 f4 f5 f6 f7 f8 f9 f10
    have S11 := Lib.hid (show Sl.Sep w _ [L4.boxR w.heap.size 33 #[.string nm, .int .i64 vr, .slice sa N sc, .slice ua M uc], L4.boxR (w.heap.size + 1) 37 #[.int .i64 2, .string un, .string uf], L4.boxR (w.heap.size + 1 + 1) 33 #[.string ⟨#[]⟩, .int .i64 0, .slice none 0 0, .slice none 0 0], Sv.ownV 70 3 a3 c3 N (ys.flatMap cl_Store), L4.boxR g1 33 #[.string nm, .int .i64 vr, .slice a3 N c3, .slice ub M uc3], Sv.ownV 73 2 ub uc3 M (vs.flatMap cl_IndexDef), Bag.bag (rws_Store ys), Bag.bag (rw_Database y5)] from Bag.push_bag S10.out hb ho)
    clear S10
    clear hb ho
    obtain ⟨f0, f1, f2, f3⟩ := Bag.cs4 S11.out 0 rfl
    obtain ⟨f4, f5, f6⟩ := Bag.cs3 S11.out 1 rfl
    obtain ⟨f7, f8, f9, f10⟩ := Bag.cs4 S11.out 4 rfl
    have HCY5 := Lib.hid hcy
    clear hcy
    unfold vv_Database
    clear f0 f1 f2 f3 f4 f5 f6 f7 f8 f9 f10
    obtain ⟨f0, f1, f2, f3⟩ := Bag.cs4 S11.out 0 rfl
    obtain ⟨f4, f5, f6⟩ := Bag.cs3 S11.out 1 rfl
    obtain ⟨f7, f8, f9, f10⟩ := Bag.cs4 S11.out 4 rfl
    obtain ⟨z0, z1, z2, z3⟩ := Bag.fs4 S11.out 4 rfl
    go_wp2_with fail
    clear f0 f1 f2 f3 f4 f5 f6 f7 f8 f9 f10 z0 z1 z2 z3
    have S12 := Lib.hid (show Sl.Sep w _ [_, _, _, _, L4.boxR g1 33 #[.string y5.f_Name, .int .i64 y5.f_Version, .slice y5.f_Stores_a y5.f_Stores.length y5.f_Stores_c, .slice y5.f_Unique_a y5.f_Unique.length y5.f_Unique_c], _, _, _] from L5.put_box5 (L5.put_box5 (L5.put_box5 (L5.put_box5 (S11.out) 4 rfl 0 (.string y5.f_Name)) 4 rfl 1 (.int .i64 y5.f_Version)) 4 rfl 2 (.slice y5.f_Stores_a y5.f_Stores.length y5.f_Stores_c)) 4 rfl 3 (.slice y5.f_Unique_a y5.f_Unique.length y5.f_Unique_c))
    clear S11
    have S13 := Lib.hid (show Sl.Sep w _ [_, _, _, _, _] from Bag.take S12.out [0, 1, 2, 7, 4] (by rfl) (by decide))
    clear S12
    go_meet
    case rel => exact ⟨y5, (dropD D un), raw_drop HKO.out, by exact HCY5.out, Lib.hid (by exact S13.out)⟩
  have hb2 : (uk == 2) = false := by simpa using hk2
  by_cases hk3 : uk = 3
  ·
   subst hk3
   cases ko with
   | none =>
    try simp only [numO_none, numO_some]
    obtain ⟨f0, f1, f2⟩ := Bag.cs3 S10.out 1 rfl
    obtain ⟨f3, f4, f5, f6⟩ := Bag.cs4 S10.out 2 rfl
    obtain ⟨f7, f8, f9, f10⟩ := Bag.cs4 S10.out 4 rfl
    obtain ⟨z0, z1, z2, z3⟩ := Bag.fs4 S10.out 2 rfl
    go_wp2_with fail
    clear f0 f1 f2 f3 f4 f5 f6 f7 f8 f9 f10 z0 z1 z2 z3
    have S11 := Lib.hid (show Sl.Sep w _ [L4.boxR w.heap.size 33 #[.string nm, .int .i64 vr, .slice sa N sc, .slice ua M uc], L4.boxR (w.heap.size + 1) 37 #[.int .i64 3, .string un, .string uf], L4.boxR (w.heap.size + 1 + 1) 33 #[.string nm, .int .i64 vr, .slice a3 N c3, .slice ub M uc3], Sv.ownV 70 3 a3 c3 N (ys.flatMap cl_Store), L4.boxR g1 33 #[.string nm, .int .i64 vr, .slice a3 N c3, .slice ub M uc3], Sv.ownV 73 2 ub uc3 M (vs.flatMap cl_IndexDef), Bag.bag (rws_Store ys)] from L5.put_box5 (L5.put_box5 (L5.put_box5 (L5.put_box5 (S10.out) 2 rfl 0 (.string nm)) 2 rfl 1 (.int .i64 vr)) 2 rfl 2 (.slice a3 N c3)) 2 rfl 3 (.slice ub M uc3))
    clear S10
    obtain ⟨f0, f1, f2, f3⟩ := Bag.cs4 S11.out 2 rfl
    refine bodyPost_ret (v := .tuple #[.agg #[.string nm, .int .i64 vr, .slice a3 N c3, .slice ub M uc3], .bool false]) (by simp [results, Tryz.results8, go_sem, *]) rfl ?_
    clear f0 f1 f2 f3
    have S12 := Lib.hid (show Sl.Sep w _ [_, _, _, Bag.bag ([row_Store a3 c3 ys]), _, _, _] from Bag.bag_of_one S11.out 3 (r := row_Store a3 c3 ys) (by unfold RowS.res row_Store; dsimp only; rw [HYL.out]; rfl))
    clear S11
    have S13 := Lib.hid (show Sl.Sep w _ [_, _, _, _, _, Bag.bag ([row_IndexDef ub uc3 vs]), _] from Bag.bag_of_one S12.out 5 (r := row_IndexDef ub uc3 vs) (by unfold RowS.res row_IndexDef; dsimp only; rw [HVL.out]; rfl))
    clear S12
    have S14 := Lib.hid (show Sl.Sep w _ [_, _, _, Bag.bag ([row_Store a3 c3 ys] ++ (rws_Store ys)), _, _, Bag.bag ([])] from Bag.bag_join S13.out 3 6 (by decide) rfl rfl)
    clear S13
    have S15 := Lib.hid (show Sl.Sep w _ [_, _, _, Bag.bag ([row_Store a3 c3 ys] ++ (rws_Store ys) ++ ([row_IndexDef ub uc3 vs])), _, Bag.bag ([]), Bag.bag ([])] from Bag.bag_join S14.out 3 5 (by decide) rfl rfl)
    clear S14
    obtain ⟨e1, e2⟩ := up_none (raw_ix_no HKO.out)
    rw [e1, e2]
    exact ⟨(⟨nm, vr, a3, c3, ys, ub, uc3, vs⟩ : Y_Database), by unfold vv_Database; dsimp only; rw [HYL.out, HVL.out], by rw [HDC.out]; unfold co_Database; dsimp only; rw [HCE.out]; rfl, Bag.bag_from S15.out 3 rfl, S15.out.old⟩
   | some k =>
    have hk0 : (0 : Int) ≤ (k : Int) := by omega
    cases xo with
    | some x =>
     have hx0 : ¬ (x : Int) < 0 := by omega
     try simp only [numO_none, numO_some]
     obtain ⟨f0, f1, f2⟩ := Bag.cs3 S10.out 1 rfl
     obtain ⟨f3, f4, f5, f6⟩ := Bag.cs4 S10.out 2 rfl
     obtain ⟨f7, f8, f9, f10⟩ := Bag.cs4 S10.out 4 rfl
     obtain ⟨z0, z1, z2, z3⟩ := Bag.fs4 S10.out 2 rfl
     go_wp2_with fail
     clear f0 f1 f2 f3 f4 f5 f6 f7 f8 f9 f10 z0 z1 z2 z3
     have S11 := Lib.hid (show Sl.Sep w _ [L4.boxR w.heap.size 33 #[.string nm, .int .i64 vr, .slice sa N sc, .slice ua M uc], L4.boxR (w.heap.size + 1) 37 #[.int .i64 3, .string un, .string uf], L4.boxR (w.heap.size + 1 + 1) 33 #[.string nm, .int .i64 vr, .slice a3 N c3, .slice ub M uc3], Sv.ownV 70 3 a3 c3 N (ys.flatMap cl_Store), L4.boxR g1 33 #[.string nm, .int .i64 vr, .slice a3 N c3, .slice ub M uc3], Sv.ownV 73 2 ub uc3 M (vs.flatMap cl_IndexDef), Bag.bag (rws_Store ys)] from L5.put_box5 (L5.put_box5 (L5.put_box5 (L5.put_box5 (S10.out) 2 rfl 0 (.string nm)) 2 rfl 1 (.int .i64 vr)) 2 rfl 2 (.slice a3 N c3)) 2 rfl 3 (.slice ub M uc3))
     clear S10
     obtain ⟨f0, f1, f2, f3⟩ := Bag.cs4 S11.out 2 rfl
     refine bodyPost_ret (v := .tuple #[.agg #[.string nm, .int .i64 vr, .slice a3 N c3, .slice ub M uc3], .bool false]) (by simp [results, Tryz.results8, go_sem, *]) rfl ?_
     clear f0 f1 f2 f3
     have S12 := Lib.hid (show Sl.Sep w _ [_, _, _, Bag.bag ([row_Store a3 c3 ys]), _, _, _] from Bag.bag_of_one S11.out 3 (r := row_Store a3 c3 ys) (by unfold RowS.res row_Store; dsimp only; rw [HYL.out]; rfl))
     clear S11
     have S13 := Lib.hid (show Sl.Sep w _ [_, _, _, _, _, Bag.bag ([row_IndexDef ub uc3 vs]), _] from Bag.bag_of_one S12.out 5 (r := row_IndexDef ub uc3 vs) (by unfold RowS.res row_IndexDef; dsimp only; rw [HVL.out]; rfl))
     clear S12
     have S14 := Lib.hid (show Sl.Sep w _ [_, _, _, Bag.bag ([row_Store a3 c3 ys] ++ (rws_Store ys)), _, _, Bag.bag ([])] from Bag.bag_join S13.out 3 6 (by decide) rfl rfl)
     clear S13
     have S15 := Lib.hid (show Sl.Sep w _ [_, _, _, Bag.bag ([row_Store a3 c3 ys] ++ (rws_Store ys) ++ ([row_IndexDef ub uc3 vs])), _, Bag.bag ([]), Bag.bag ([])] from Bag.bag_join S14.out 3 5 (by decide) rfl rfl)
     clear S14
     obtain ⟨e1, e2⟩ := up_none (raw_ix_no2 HXO.out)
     rw [e1, e2]
     exact ⟨(⟨nm, vr, a3, c3, ys, ub, uc3, vs⟩ : Y_Database), by unfold vv_Database; dsimp only; rw [HYL.out, HVL.out], by rw [HDC.out]; unfold co_Database; dsimp only; rw [HCE.out]; rfl, Bag.bag_from S15.out 3 rfl, S15.out.old⟩
    | none =>
     try simp only [numO_none, numO_some]
     obtain ⟨f0, f1, f2, f3⟩ := Bag.cs4 S10.out 0 rfl
     obtain ⟨f4, f5, f6⟩ := Bag.cs3 S10.out 1 rfl
     obtain ⟨f7, f8, f9, f10⟩ := Bag.cs4 S10.out 4 rfl
     have S11 := Lib.hid (show Sl.Sep w _ [L4.boxR w.heap.size 33 #[.string nm, .int .i64 vr, .slice sa N sc, .slice ua M uc], L4.boxR (w.heap.size + 1) 37 #[.int .i64 3, .string un, .string uf], L4.boxR (w.heap.size + 1 + 1) 33 #[.string ⟨#[]⟩, .int .i64 0, .slice none 0 0, .slice none 0 0], Sv.ownV 70 3 a3 c3 N (ys.flatMap cl_Store), L4.boxR g1 33 #[.string nm, .int .i64 vr, .slice a3 N c3, .slice ub M uc3], Sv.ownV 73 2 ub uc3 M (vs.flatMap cl_IndexDef), Bag.bag (rws_Store ys), Sv.ownV 73 2 (some ⟨w4.heap.size, 0, none⟩) 1 1 ([(⟨un, uf⟩ : X_IndexDef)].flatMap cl_IndexDef)] from Sv.push_own S10.out ((Below.refl _ _).alloc (Nat.le_refl _) _) (OwnV.madeAt w4 73 2 1 w4.heap.size #[.string un, .string uf] rfl (Nat.le_refl _) rfl (by decide)))
     clear S10
     go_wp2_with (at_builtin; refine L5.wpList_append_v S11.out 5 rfl rfl _ _ 31 (by rfl) iX (.agg #[.string ⟨#[]⟩, .string ⟨#[]⟩]) 32 Tryz.underlying31 HIX.out.1 HIX.out.2.1 HIX.out.2.2.1 HIX.out.2.2.2 rfl (by omega) _ (by rfl) rfl _ _ 1 _ _ ([(⟨un, uf⟩ : X_IndexDef)].flatMap cl_IndexDef) (by rfl) rfl (Sv.own_at S11.out 7 rfl).reads rfl (one_flat cl_IndexDef_one _) (by unfold maxLen; omega) (by omega) ?_; intro a2' c2' w5 hA; have y3' := Bag.cell_at hA 4 rfl 3 rfl; have x3' := Bag.free_at hA 4 rfl 3)
     have S12 := Lib.hid (show Sl.Sep w _ [_, _, _, _, _, Sv.ownV 73 2 a2' c2' (M + 1) (vs.flatMap cl_IndexDef ++ ([(⟨un, uf⟩ : X_IndexDef)].flatMap cl_IndexDef)), _, _] from hA)
     clear S11
     clear hA; clear y3' x3'
     clear f0 f1 f2 f3 f4 f5 f6 f7 f8 f9 f10
     have S13 := Lib.hid (show Sl.Sep w _ [_, _, _, _, L4.boxR g1 33 #[.string nm, .int .i64 vr, .slice a3 N c3, .slice a2' (M + 1) c2'], _, _, _] from L5.put_box5 (S12.out) 4 rfl 3 (.slice a2' (M + 1) c2'))
     clear S12
     have S14 := Lib.hid (show Sl.Sep w _ [_, _, _, _, _, Sv.ownV 73 2 a2' c2' (M + 1) ((vs ++ [(⟨un, uf⟩ : X_IndexDef)]).flatMap cl_IndexDef), _, _] from (by have h := S13.out; rw [← List.flatMap_append] at h; exact h))
     clear S13
     have HLZ := Lib.hid (show (vs ++ [(⟨un, uf⟩ : X_IndexDef)]).length = M + 1 from by rw [List.length_append, HVL.out]; rfl)
     have S15 := Lib.hid (show Sl.Sep w _ [_, _, _, Bag.bag ([row_Store a3 c3 ys]), _, _, _, _] from Bag.bag_of_one S14.out 3 (r := row_Store a3 c3 ys) (by unfold RowS.res row_Store; dsimp only; rw [HYL.out]; rfl))
     clear S14
     have S16 := Lib.hid (show Sl.Sep w _ [_, _, _, _, _, Bag.bag ([row_IndexDef a2' c2' (vs ++ [(⟨un, uf⟩ : X_IndexDef)])]), _, _] from Bag.bag_of_one S15.out 5 (r := row_IndexDef a2' c2' (vs ++ [(⟨un, uf⟩ : X_IndexDef)])) (by unfold RowS.res row_IndexDef; dsimp only; rw [HLZ.out]; rfl))
     clear S15
     have S17 := Lib.hid (show Sl.Sep w _ [_, _, _, Bag.bag ([row_Store a3 c3 ys] ++ (rws_Store ys)), _, _, Bag.bag ([]), _] from Bag.bag_join S16.out 3 6 (by decide) rfl rfl)
     clear S16
     have S18 := Lib.hid (show Sl.Sep w _ [_, _, _, Bag.bag ([row_Store a3 c3 ys] ++ (rws_Store ys) ++ ([row_IndexDef a2' c2' (vs ++ [(⟨un, uf⟩ : X_IndexDef)])])), _, Bag.bag ([]), Bag.bag ([]), _] from Bag.bag_join S17.out 3 5 (by decide) rfl rfl)
     clear S17
     have S19 := Lib.hid (show Sl.Sep w _ [_, _, _, _, _] from Bag.take S18.out [0, 1, 2, 3, 4] (by rfl) (by decide))
     clear S18
     go_meet
     case rel => exact ⟨(⟨nm, vr, a3, c3, ys, a2', c2', (vs ++ [(⟨un, uf⟩ : X_IndexDef)])⟩ : Y_Database), { D with f_Unique := D.f_Unique ++ [(⟨un, uf⟩ : X_IndexDef)] }, raw_ix HKO.out HXO.out, by rw [HDC.out]; unfold co_Database; dsimp only; rw [HCE.out]; rfl, Lib.hid (by dsimp only; rw [HYL.out, HLZ.out]; exact S19.out)⟩
  have hb3 : (uk == 3) = false := by simpa using hk3
  by_cases hk4 : uk = 4
  ·
   subst hk4
   cases xo with
   | none =>
    try simp only [numO_none, numO_some]
    obtain ⟨f0, f1, f2⟩ := Bag.cs3 S10.out 1 rfl
    obtain ⟨f3, f4, f5, f6⟩ := Bag.cs4 S10.out 2 rfl
    obtain ⟨f7, f8, f9, f10⟩ := Bag.cs4 S10.out 4 rfl
    obtain ⟨z0, z1, z2, z3⟩ := Bag.fs4 S10.out 2 rfl
    go_wp2_with fail
    clear f0 f1 f2 f3 f4 f5 f6 f7 f8 f9 f10 z0 z1 z2 z3
    have S11 := Lib.hid (show Sl.Sep w _ [L4.boxR w.heap.size 33 #[.string nm, .int .i64 vr, .slice sa N sc, .slice ua M uc], L4.boxR (w.heap.size + 1) 37 #[.int .i64 4, .string un, .string uf], L4.boxR (w.heap.size + 1 + 1) 33 #[.string nm, .int .i64 vr, .slice a3 N c3, .slice ub M uc3], Sv.ownV 70 3 a3 c3 N (ys.flatMap cl_Store), L4.boxR g1 33 #[.string nm, .int .i64 vr, .slice a3 N c3, .slice ub M uc3], Sv.ownV 73 2 ub uc3 M (vs.flatMap cl_IndexDef), Bag.bag (rws_Store ys)] from L5.put_box5 (L5.put_box5 (L5.put_box5 (L5.put_box5 (S10.out) 2 rfl 0 (.string nm)) 2 rfl 1 (.int .i64 vr)) 2 rfl 2 (.slice a3 N c3)) 2 rfl 3 (.slice ub M uc3))
    clear S10
    obtain ⟨f0, f1, f2, f3⟩ := Bag.cs4 S11.out 2 rfl
    refine bodyPost_ret (v := .tuple #[.agg #[.string nm, .int .i64 vr, .slice a3 N c3, .slice ub M uc3], .bool false]) (by simp [results, Tryz.results8, go_sem, *]) rfl ?_
    clear f0 f1 f2 f3
    have S12 := Lib.hid (show Sl.Sep w _ [_, _, _, Bag.bag ([row_Store a3 c3 ys]), _, _, _] from Bag.bag_of_one S11.out 3 (r := row_Store a3 c3 ys) (by unfold RowS.res row_Store; dsimp only; rw [HYL.out]; rfl))
    clear S11
    have S13 := Lib.hid (show Sl.Sep w _ [_, _, _, _, _, Bag.bag ([row_IndexDef ub uc3 vs]), _] from Bag.bag_of_one S12.out 5 (r := row_IndexDef ub uc3 vs) (by unfold RowS.res row_IndexDef; dsimp only; rw [HVL.out]; rfl))
    clear S12
    have S14 := Lib.hid (show Sl.Sep w _ [_, _, _, Bag.bag ([row_Store a3 c3 ys] ++ (rws_Store ys)), _, _, Bag.bag ([])] from Bag.bag_join S13.out 3 6 (by decide) rfl rfl)
    clear S13
    have S15 := Lib.hid (show Sl.Sep w _ [_, _, _, Bag.bag ([row_Store a3 c3 ys] ++ (rws_Store ys) ++ ([row_IndexDef ub uc3 vs])), _, Bag.bag ([]), Bag.bag ([])] from Bag.bag_join S14.out 3 5 (by decide) rfl rfl)
    clear S14
    obtain ⟨e1, e2⟩ := up_none (raw_no_no HXO.out)
    rw [e1, e2]
    exact ⟨(⟨nm, vr, a3, c3, ys, ub, uc3, vs⟩ : Y_Database), by unfold vv_Database; dsimp only; rw [HYL.out, HVL.out], by rw [HDC.out]; unfold co_Database; dsimp only; rw [HCE.out]; rfl, Bag.bag_from S15.out 3 rfl, S15.out.old⟩
   | some x =>
    have hx0 : (0 : Int) ≤ (x : Int) := by omega
    try simp only [numO_none, numO_some]
    have hxl : x < vs.length := by have h := (idx_some HXO.out).1; rw [HDC.out] at h; exact h
    have hxM : x < M := by have := HVL.out; omega
    have HXM := Lib.hid hxM
    obtain ⟨g9, e9⟩ : ∃ g, ub = some ⟨g, 0, none⟩ := by
     rcases (Sv.own_at S10.out 5 rfl).form with ⟨_, h0, _⟩ | ⟨g, e, _⟩
     ·
      exact absurd hxM (by omega)
     ·
      exact ⟨g, e⟩
    subst e9
    have hcap := (Sv.own_at S10.out 5 rfl).cap
    have h1 : (x : Int) ≤ (uc3 : Int) := by omega
    have h2 : (x : Int) + 1 ≤ (M : Int) := by omega
    have h3 : (M : Int) ≤ (uc3 : Int) := by omega
    have h5 : (0 : Int) ≤ (x : Int) + 1 := by omega
    have h6 : ((x : Int) + 1).toNat = x + 1 := by omega
    have h7 : (x : Int) ≤ (M : Int) := by omega
    have hwx : IntKind.i64.wrap ((x : Int) + 1) = (x : Int) + 1 := IntWalk.i64_in _ ⟨by omega, by omega⟩
    have HCAP := Lib.hid hcap
    clear hcap hxM hxl
    have HD2 := Lib.hid (show ((vs.drop (x + 1)).flatMap cl_IndexDef).length = (M - (x + 1)) * 2 by rw [dropM cl_IndexDef_len, HVL.out])
    have HTK := Lib.hid (show ((vs.take x).flatMap cl_IndexDef).length = x * 2 from takeM cl_IndexDef_len (by have := HXM.out; have := HVL.out; omega))
    have HYL2 := Lib.hid (show (vs.flatMap cl_IndexDef).length = M * 2 by rw [flat_len cl_IndexDef_len, HVL.out])
    obtain ⟨v, hv⟩ : ∃ v, vs[x]? = some v := ⟨_, List.getElem?_eq_getElem (by have := HXM.out; have := HVL.out; omega)⟩
    have HX2 := Lib.hid (show vs.flatMap cl_IndexDef = (vs.take x).flatMap cl_IndexDef ++ (cl_IndexDef v ++ (vs.drop (x + 1)).flatMap cl_IndexDef) from by conv => lhs; rw [split_next hv, List.flatMap_append, List.flatMap_cons])
    clear hv
    have HE := Lib.hid (show vs.eraseIdx x = vs.take x ++ vs.drop (x + 1) from List.eraseIdx_eq_take_drop_succ ..)
    by_cases hci : uc3 = x + 1
    ·
     have HCI := Lib.hid hci
     have hci2 : (uc3 = x + 1) = True := by simp [hci]
     clear hci
     obtain ⟨f0, f1, f2, f3⟩ := Bag.cs4 S10.out 0 rfl
     obtain ⟨f4, f5, f6⟩ := Bag.cs3 S10.out 1 rfl
     obtain ⟨f7, f8, f9, f10⟩ := Bag.cs4 S10.out 4 rfl
     go_upto_region 17 with fail
     clear f0 f1 f2 f3 f4 f5 f6 f7 f8 f9 f10
     refine Reg.wp_region_late (fun w' => (w'.cell? ⟨w.heap.size, 0, none⟩ = some (.string nm) ∧ w'.cell? ⟨w.heap.size, 1, none⟩ = some (.int .i64 vr) ∧ w'.cell? ⟨w.heap.size, 2, none⟩ = some (.slice sa N sc) ∧ w'.cell? ⟨w.heap.size, 3, none⟩ = some (.slice ua M uc))) (fun w' => (w'.cell? ⟨g1, 0, none⟩ = some (.string nm) ∧ w'.cell? ⟨g1, 1, none⟩ = some (.int .i64 vr) ∧ w'.cell? ⟨g1, 2, none⟩ = some (.slice a3 N c3) ∧ w'.cell? ⟨g1, 3, none⟩ = some (.slice (some ⟨g9, 0, none⟩) M uc3))) 11 (by kernel_rfl) (Bag.cs4 (Bag.drew1 S10.out) 0 rfl) (Bag.cs4 (Bag.drew1 S10.out) 4 rfl) (fun hS hL => ?_)
     have S11 := Lib.hid (Bag.drew1 S10.out)
     clear S10
     generalize World.drew _ = w5 at hS hL S11 ⊢
     refine Reg.early_op (i := 0) (v := ?_) rfl (by kernel_rfl) (by kernel_rfl) (by kernel_rfl) rfl (by kernel_rfl) (by kernel_rfl) (fun _ _ _ h => h) (by rfl) ?_ hS hL ?_
     rotate_left
     ·
      (intro w hSw hSv; (try dsimp only at hSw); (try dsimp only at hSv); go_simp; try with_reducible rfl)
     try simp only [zp0, zp1, zp2, zp3, zp4]
     refine Reg.early_op (i := 1) (v := ?_) rfl (by kernel_rfl) (by kernel_rfl) (by kernel_rfl) rfl (by kernel_rfl) (by kernel_rfl) (fun _ _ _ h => h) (by rfl) ?_ hS hL ?_
     rotate_left
     ·
      (intro w hSw hSv; (try dsimp only at hSw); (try dsimp only at hSv); go_simp; try with_reducible rfl)
     try simp only [zp0, zp1, zp2, zp3, zp4]
     refine Reg.early_op (i := 2) (v := ?_) rfl (by kernel_rfl) (by kernel_rfl) (by kernel_rfl) rfl (by kernel_rfl) (by kernel_rfl) (fun _ _ _ h => h) (by rfl) ?_ hS hL ?_
     rotate_left
     ·
      (intro w hSw hSv; (try dsimp only at hSw); (try dsimp only at hSv); go_simp; try with_reducible rfl)
     try simp only [zp0, zp1, zp2, zp3, zp4]
     refine Reg.early_op (i := 3) (v := ?_) rfl (by kernel_rfl) (by kernel_rfl) (by kernel_rfl) rfl (by kernel_rfl) (by kernel_rfl) (fun _ _ _ h => h) (by rfl) ?_ hS hL ?_
     rotate_left
     ·
      (intro w hSw hSv; (try dsimp only at hSw); (try dsimp only at hSv); go_simp; try with_reducible rfl)
     try simp only [zp0, zp1, zp2, zp3, zp4]
     refine Reg.early_op (i := 4) (v := ?_) rfl (by kernel_rfl) (by kernel_rfl) (by kernel_rfl) rfl (by kernel_rfl) (by kernel_rfl) (fun _ _ _ h => h) (by rfl) ?_ hS hL ?_
     rotate_left
     ·
      (intro w hSw hSv; (try dsimp only at hSw); (try dsimp only at hSv); go_simp; try with_reducible rfl)
     try simp only [zp0, zp1, zp2, zp3, zp4]
     refine Reg.early_op (i := 5) (v := ?_) rfl (by kernel_rfl) (by kernel_rfl) (by kernel_rfl) rfl (by kernel_rfl) (by kernel_rfl) (fun _ _ _ h => h) (by rfl) ?_ hS hL ?_
     rotate_left
     ·
      (intro w hSw hSv; (try dsimp only at hSw); (try dsimp only at hSv); go_simp; try with_reducible rfl)
     try simp only [zp0, zp1, zp2, zp3, zp4]
     refine Reg.early_op (i := 6) (v := ?_) rfl (by kernel_rfl) (by kernel_rfl) (by kernel_rfl) rfl (by kernel_rfl) (by kernel_rfl) (fun _ _ _ h => h) (by rfl) ?_ hS hL ?_
     rotate_left
     ·
      (intro w hSw hSv; (try dsimp only at hSw); (try dsimp only at hSv); go_simp; try with_reducible rfl)
     try simp only [zp0, zp1, zp2, zp3, zp4]
     refine Reg.early_op (i := 7) (v := ?_) rfl (by kernel_rfl) (by kernel_rfl) (by kernel_rfl) rfl (by kernel_rfl) (by kernel_rfl) (fun _ _ _ h => h) (by rfl) ?_ hS hL ?_
     rotate_left
     ·
      (intro w hSw hSv; (try dsimp only at hSw); (try dsimp only at hSv); go_simp; try with_reducible rfl)
     try simp only [zp0, zp1, zp2, zp3, zp4]
     refine Reg.early_op (i := 8) (v := ?_) rfl (by kernel_rfl) (by kernel_rfl) (by kernel_rfl) rfl (by kernel_rfl) (by kernel_rfl) (fun _ _ _ h => h) (by rfl) ?_ hS hL ?_
     rotate_left
     ·
      (intro w hSw hSv; (try dsimp only at hSw); (try dsimp only at hSv); go_simp; try with_reducible rfl)
     try simp only [zp0, zp1, zp2, zp3, zp4]
     refine Reg.only_op (i := 9) rfl (by kernel_rfl) (fun K hK => ?_)
     refine step_append_in S11.out 5 rfl rfl _ _ 31 (by rfl) iX Tryz.underlying31 HIX.out.1 HIX.out.2.2.1 x uc3 (by rfl) ⟨g9, 0, none⟩ (M - (x + 1)) (uc3 - (x + 1)) (by rfl) w5.heap.size ((vs.drop (x + 1)).flatMap cl_IndexDef) (by rw [List.drop_of_length_le (by have := HVL.out; have := HCI.out; have := HCAP.out; have := HXM.out; omega)]; exact fun j hj => absurd hj (by simp)) HD2.out (by omega) (by rw [HD2.out, HYL2.out]; have := HXM.out; omega) (one_flat cl_IndexDef_one _) ?_
     intro w4 S'
     obtain ⟨XT, hXT⟩ : ∃ u, u = (cl_IndexDef v ++ (vs.drop (x + 1)).flatMap cl_IndexDef).drop ((vs.drop (x + 1)).flatMap cl_IndexDef).length := ⟨_, rfl⟩
     have S12 := Lib.hid (show Sl.Sep w _ [L4.boxR w.heap.size 33 #[.string nm, .int .i64 vr, .slice sa N sc, .slice ua M uc], L4.boxR (w.heap.size + 1) 37 #[.int .i64 4, .string un, .string uf], L4.boxR (w.heap.size + 1 + 1) 33 #[.string ⟨#[]⟩, .int .i64 0, .slice none 0 0, .slice none 0 0], Sv.ownV 70 3 a3 c3 N (ys.flatMap cl_Store), L4.boxR g1 33 #[.string nm, .int .i64 vr, .slice a3 N c3, .slice (some ⟨g9, 0, none⟩) M uc3], Sv.ownV 73 2 (some ⟨g9, 0, none⟩) uc3 M ((vs.take x ++ vs.drop (x + 1)).flatMap cl_IndexDef ++ XT), Bag.bag (rws_Store ys)] from (by have h := S'; rw [HX2.out, Run.over_at _ _ _ _ HTK.out (by rw [List.length_append]; omega), ← hXT] at h; rw [List.flatMap_append, List.append_assoc]; exact h))
     clear S11
     clear S' hXT
     clear hL
     refine hK.out _ _ (Bag.cs4 S12.out 0 rfl) (Bag.cs4 S12.out 4 rfl) (fun hS hL => ?_)
     clear hK K
     try simp only [zp0, zp1, zp2, zp3, zp4]
     refine Reg.early_op (i := 10) (v := ?_) rfl (by kernel_rfl) (by kernel_rfl) (by kernel_rfl) rfl (by kernel_rfl) (by kernel_rfl) (fun _ _ _ h => h) (by rfl) ?_ hS hL ?_
     rotate_left
     ·
      (intro w hSw hSv; (try dsimp only at hSw); (try dsimp only at hSv); go_simp; try with_reducible rfl)
     try simp only [zp0, zp1, zp2, zp3, zp4]
     refine Reg.late_op (i := 11) rfl (by kernel_rfl) rfl (fun K hK => ?_)
     obtain ⟨f0, f1, f2, f3⟩ := Bag.cs4 S12.out 4 rfl
     obtain ⟨z0, z1, z2, z3⟩ := Bag.fs4 S12.out 4 rfl
     go_simp
     clear f0 f1 f2 f3 z0 z1 z2 z3
     have S13 := Lib.hid (show Sl.Sep w _ [_, _, _, _, L4.boxR g1 33 #[.string nm, .int .i64 vr, .slice a3 N c3, .slice (some ⟨g9, 0, none⟩) (x + (M - (x + 1))) uc3], _, _] from L5.put_box5 (S12.out) 4 rfl 3 (.slice (some ⟨g9, 0, none⟩) (x + (M - (x + 1))) uc3))
     clear S12
     refine hK.out _ _ (Bag.cs4 S13.out 0 rfl) (fun hS => ?_)
     clear hL
     clear hK K
     try simp only [zp0, zp1, zp2, zp3, zp4]
     refine Reg.anyL_done (by kernel_rfl) ?_ _
     obtain ⟨f0, f1, f2, f3⟩ := Bag.cs4 S13.out 0 rfl
     obtain ⟨f4, f5, f6⟩ := Bag.cs3 S13.out 1 rfl
     obtain ⟨f7, f8, f9, f10⟩ := Bag.cs4 S13.out 2 rfl
     obtain ⟨f11, f12, f13, f14⟩ := Bag.cs4 S13.out 4 rfl
     clear f0 f1 f2 f3 f4 f5 f6 f7 f8 f9 f10 f11 f12 f13 f14
     have hn1 : x + (M - (x + 1)) = M - 1 := by have := HXM.out; omega
     rw [hn1] at S13 ⊢
     have S14 := Lib.hid (show Sl.Sep w _ [_, _, _, _, L4.boxR g1 33 #[.string nm, .int .i64 vr, .slice a3 N c3, .slice (some ⟨g9, 0, none⟩) (M - 1) uc3], _, _] from S13.out)
     clear S13
     have HAL := Lib.hid (show ((vs.take x ++ vs.drop (x + 1)).flatMap cl_IndexDef).length = (M - 1) * 2 by rw [List.flatMap_append, List.length_append, HTK.out, HD2.out]; have := HXM.out; omega)
     have S15 := Lib.hid (show Sl.Sep w _ [_, _, _, _, _, Sv.ownV 73 2 (some ⟨g9, 0, none⟩) uc3 (M - 1) ((vs.take x ++ vs.drop (x + 1)).flatMap cl_IndexDef), _] from (by have h := Run.shorter S14.out 5 rfl (M - 1) (by omega); rw [List.take_left' HAL.out] at h; exact h))
     clear S14
     have HLZ := Lib.hid (show (vs.eraseIdx x).length = M - 1 from by rw [List.length_eraseIdx, if_pos (by have := HXM.out; have := HVL.out; omega), HVL.out])
     have S16 := Lib.hid (show Sl.Sep w _ [_, _, _, Bag.bag ([row_Store a3 c3 ys]), _, _, _] from Bag.bag_of_one S15.out 3 (r := row_Store a3 c3 ys) (by unfold RowS.res row_Store; dsimp only; rw [HYL.out]; rfl))
     clear S15
     have S17 := Lib.hid (show Sl.Sep w _ [_, _, _, _, _, Bag.bag ([row_IndexDef (some ⟨g9, 0, none⟩) uc3 (vs.eraseIdx x)]), _] from Bag.bag_of_one S16.out 5 (r := row_IndexDef (some ⟨g9, 0, none⟩) uc3 (vs.eraseIdx x)) (by unfold RowS.res row_IndexDef; dsimp only; rw [HLZ.out, HE.out]; rfl))
     clear S16
     have S18 := Lib.hid (show Sl.Sep w _ [_, _, _, Bag.bag ([row_Store a3 c3 ys] ++ (rws_Store ys)), _, _, Bag.bag ([])] from Bag.bag_join S17.out 3 6 (by decide) rfl rfl)
     clear S17
     have S19 := Lib.hid (show Sl.Sep w _ [_, _, _, Bag.bag ([row_Store a3 c3 ys] ++ (rws_Store ys) ++ ([row_IndexDef (some ⟨g9, 0, none⟩) uc3 (vs.eraseIdx x)])), _, Bag.bag ([]), Bag.bag ([])] from Bag.bag_join S18.out 3 5 (by decide) rfl rfl)
     clear S18
     have S20 := Lib.hid (show Sl.Sep w _ [_, _, _, _, _] from Bag.take S19.out [0, 1, 2, 3, 4] (by rfl) (by decide))
     clear S19
     clear hn1
     go_wp2_with fail
     go_meet
     case rel => exact ⟨(⟨nm, vr, a3, c3, ys, some ⟨g9, 0, none⟩, uc3, vs.eraseIdx x⟩ : Y_Database), { D with f_Unique := D.f_Unique.eraseIdx x }, raw_no HXO.out, by rw [HDC.out]; unfold co_Database; dsimp only; rw [HCE.out]; rfl, Lib.hid (by dsimp only; rw [HYL.out, HLZ.out]; exact S20.out)⟩
    ·
     have hci2 : (uc3 = x + 1) = False := by simp [hci]
     clear hci
     obtain ⟨f0, f1, f2, f3⟩ := Bag.cs4 S10.out 0 rfl
     obtain ⟨f4, f5, f6⟩ := Bag.cs3 S10.out 1 rfl
     obtain ⟨f7, f8, f9, f10⟩ := Bag.cs4 S10.out 4 rfl
     go_upto_region 17 with fail
     clear f0 f1 f2 f3 f4 f5 f6 f7 f8 f9 f10
     refine Reg.wp_region_late (fun w' => (w'.cell? ⟨w.heap.size, 0, none⟩ = some (.string nm) ∧ w'.cell? ⟨w.heap.size, 1, none⟩ = some (.int .i64 vr) ∧ w'.cell? ⟨w.heap.size, 2, none⟩ = some (.slice sa N sc) ∧ w'.cell? ⟨w.heap.size, 3, none⟩ = some (.slice ua M uc))) (fun w' => (w'.cell? ⟨g1, 0, none⟩ = some (.string nm) ∧ w'.cell? ⟨g1, 1, none⟩ = some (.int .i64 vr) ∧ w'.cell? ⟨g1, 2, none⟩ = some (.slice a3 N c3) ∧ w'.cell? ⟨g1, 3, none⟩ = some (.slice (some ⟨g9, 0, none⟩) M uc3))) 11 (by kernel_rfl) (Bag.cs4 (Bag.drew1 S10.out) 0 rfl) (Bag.cs4 (Bag.drew1 S10.out) 4 rfl) (fun hS hL => ?_)
     have S11 := Lib.hid (Bag.drew1 S10.out)
     clear S10
     generalize World.drew _ = w5 at hS hL S11 ⊢
     refine Reg.early_op (i := 0) (v := ?_) rfl (by kernel_rfl) (by kernel_rfl) (by kernel_rfl) rfl (by kernel_rfl) (by kernel_rfl) (fun _ _ _ h => h) (by rfl) ?_ hS hL ?_
     rotate_left
     ·
      (intro w hSw hSv; (try dsimp only at hSw); (try dsimp only at hSv); go_simp; try with_reducible rfl)
     try simp only [zp0, zp1, zp2, zp3, zp4]
     refine Reg.early_op (i := 1) (v := ?_) rfl (by kernel_rfl) (by kernel_rfl) (by kernel_rfl) rfl (by kernel_rfl) (by kernel_rfl) (fun _ _ _ h => h) (by rfl) ?_ hS hL ?_
     rotate_left
     ·
      (intro w hSw hSv; (try dsimp only at hSw); (try dsimp only at hSv); go_simp; try with_reducible rfl)
     try simp only [zp0, zp1, zp2, zp3, zp4]
     refine Reg.early_op (i := 2) (v := ?_) rfl (by kernel_rfl) (by kernel_rfl) (by kernel_rfl) rfl (by kernel_rfl) (by kernel_rfl) (fun _ _ _ h => h) (by rfl) ?_ hS hL ?_
     rotate_left
     ·
      (intro w hSw hSv; (try dsimp only at hSw); (try dsimp only at hSv); go_simp; try with_reducible rfl)
     try simp only [zp0, zp1, zp2, zp3, zp4]
     refine Reg.early_op (i := 3) (v := ?_) rfl (by kernel_rfl) (by kernel_rfl) (by kernel_rfl) rfl (by kernel_rfl) (by kernel_rfl) (fun _ _ _ h => h) (by rfl) ?_ hS hL ?_
     rotate_left
     ·
      (intro w hSw hSv; (try dsimp only at hSw); (try dsimp only at hSv); go_simp; try with_reducible rfl)
     try simp only [zp0, zp1, zp2, zp3, zp4]
     refine Reg.early_op (i := 4) (v := ?_) rfl (by kernel_rfl) (by kernel_rfl) (by kernel_rfl) rfl (by kernel_rfl) (by kernel_rfl) (fun _ _ _ h => h) (by rfl) ?_ hS hL ?_
     rotate_left
     ·
      (intro w hSw hSv; (try dsimp only at hSw); (try dsimp only at hSv); go_simp; try with_reducible rfl)
     try simp only [zp0, zp1, zp2, zp3, zp4]
     refine Reg.early_op (i := 5) (v := ?_) rfl (by kernel_rfl) (by kernel_rfl) (by kernel_rfl) rfl (by kernel_rfl) (by kernel_rfl) (fun _ _ _ h => h) (by rfl) ?_ hS hL ?_
     rotate_left
     ·
      (intro w hSw hSv; (try dsimp only at hSw); (try dsimp only at hSv); go_simp; try with_reducible rfl)
     try simp only [zp0, zp1, zp2, zp3, zp4]
     refine Reg.early_op (i := 6) (v := ?_) rfl (by kernel_rfl) (by kernel_rfl) (by kernel_rfl) rfl (by kernel_rfl) (by kernel_rfl) (fun _ _ _ h => h) (by rfl) ?_ hS hL ?_
     rotate_left
     ·
      (intro w hSw hSv; (try dsimp only at hSw); (try dsimp only at hSv); go_simp; try with_reducible rfl)
     try simp only [zp0, zp1, zp2, zp3, zp4]
     refine Reg.early_op (i := 7) (v := ?_) rfl (by kernel_rfl) (by kernel_rfl) (by kernel_rfl) rfl (by kernel_rfl) (by kernel_rfl) (fun _ _ _ h => h) (by rfl) ?_ hS hL ?_
     rotate_left
     ·
      (intro w hSw hSv; (try dsimp only at hSw); (try dsimp only at hSv); go_simp; try with_reducible rfl)
     try simp only [zp0, zp1, zp2, zp3, zp4]
     refine Reg.early_op (i := 8) (v := ?_) rfl (by kernel_rfl) (by kernel_rfl) (by kernel_rfl) rfl (by kernel_rfl) (by kernel_rfl) (fun _ _ _ h => h) (by rfl) ?_ hS hL ?_
     rotate_left
     ·
      (intro w hSw hSv; (try dsimp only at hSw); (try dsimp only at hSv); go_simp; try with_reducible rfl)
     try simp only [zp0, zp1, zp2, zp3, zp4]
     refine Reg.only_op (i := 9) rfl (by kernel_rfl) (fun K hK => ?_)
     refine step_append_in S11.out 5 rfl rfl _ _ 31 (by rfl) iX Tryz.underlying31 HIX.out.1 HIX.out.2.2.1 x uc3 (by rfl) ⟨g9, (x + 1) * 2, none⟩ (M - (x + 1)) (uc3 - (x + 1)) (by rfl) w5.heap.size ((vs.drop (x + 1)).flatMap cl_IndexDef) (reads_drop cl_IndexDef_len (Sv.own_at S11.out 5 rfl).reads (by have := HXM.out; have := HVL.out; omega)) HD2.out (by omega) (by rw [HD2.out, HYL2.out]; have := HXM.out; omega) (one_flat cl_IndexDef_one _) ?_
     intro w4 S'
     obtain ⟨XT, hXT⟩ : ∃ u, u = (cl_IndexDef v ++ (vs.drop (x + 1)).flatMap cl_IndexDef).drop ((vs.drop (x + 1)).flatMap cl_IndexDef).length := ⟨_, rfl⟩
     have S12 := Lib.hid (show Sl.Sep w _ [L4.boxR w.heap.size 33 #[.string nm, .int .i64 vr, .slice sa N sc, .slice ua M uc], L4.boxR (w.heap.size + 1) 37 #[.int .i64 4, .string un, .string uf], L4.boxR (w.heap.size + 1 + 1) 33 #[.string ⟨#[]⟩, .int .i64 0, .slice none 0 0, .slice none 0 0], Sv.ownV 70 3 a3 c3 N (ys.flatMap cl_Store), L4.boxR g1 33 #[.string nm, .int .i64 vr, .slice a3 N c3, .slice (some ⟨g9, 0, none⟩) M uc3], Sv.ownV 73 2 (some ⟨g9, 0, none⟩) uc3 M ((vs.take x ++ vs.drop (x + 1)).flatMap cl_IndexDef ++ XT), Bag.bag (rws_Store ys)] from (by have h := S'; rw [HX2.out, Run.over_at _ _ _ _ HTK.out (by rw [List.length_append]; omega), ← hXT] at h; rw [List.flatMap_append, List.append_assoc]; exact h))
     clear S11
     clear S' hXT
     clear hL
     refine hK.out _ _ (Bag.cs4 S12.out 0 rfl) (Bag.cs4 S12.out 4 rfl) (fun hS hL => ?_)
     clear hK K
     try simp only [zp0, zp1, zp2, zp3, zp4]
     refine Reg.early_op (i := 10) (v := ?_) rfl (by kernel_rfl) (by kernel_rfl) (by kernel_rfl) rfl (by kernel_rfl) (by kernel_rfl) (fun _ _ _ h => h) (by rfl) ?_ hS hL ?_
     rotate_left
     ·
      (intro w hSw hSv; (try dsimp only at hSw); (try dsimp only at hSv); go_simp; try with_reducible rfl)
     try simp only [zp0, zp1, zp2, zp3, zp4]
     refine Reg.late_op (i := 11) rfl (by kernel_rfl) rfl (fun K hK => ?_)
     obtain ⟨f0, f1, f2, f3⟩ := Bag.cs4 S12.out 4 rfl
     obtain ⟨z0, z1, z2, z3⟩ := Bag.fs4 S12.out 4 rfl
     go_simp
     clear f0 f1 f2 f3 z0 z1 z2 z3
     have S13 := Lib.hid (show Sl.Sep w _ [_, _, _, _, L4.boxR g1 33 #[.string nm, .int .i64 vr, .slice a3 N c3, .slice (some ⟨g9, 0, none⟩) (x + (M - (x + 1))) uc3], _, _] from L5.put_box5 (S12.out) 4 rfl 3 (.slice (some ⟨g9, 0, none⟩) (x + (M - (x + 1))) uc3))
     clear S12
     refine hK.out _ _ (Bag.cs4 S13.out 0 rfl) (fun hS => ?_)
     clear hL
     clear hK K
     try simp only [zp0, zp1, zp2, zp3, zp4]
     refine Reg.anyL_done (by kernel_rfl) ?_ _
     obtain ⟨f0, f1, f2, f3⟩ := Bag.cs4 S13.out 0 rfl
     obtain ⟨f4, f5, f6⟩ := Bag.cs3 S13.out 1 rfl
     obtain ⟨f7, f8, f9, f10⟩ := Bag.cs4 S13.out 2 rfl
     obtain ⟨f11, f12, f13, f14⟩ := Bag.cs4 S13.out 4 rfl
     clear f0 f1 f2 f3 f4 f5 f6 f7 f8 f9 f10 f11 f12 f13 f14
     have hn1 : x + (M - (x + 1)) = M - 1 := by have := HXM.out; omega
     rw [hn1] at S13 ⊢
     have S14 := Lib.hid (show Sl.Sep w _ [_, _, _, _, L4.boxR g1 33 #[.string nm, .int .i64 vr, .slice a3 N c3, .slice (some ⟨g9, 0, none⟩) (M - 1) uc3], _, _] from S13.out)
     clear S13
     have HAL := Lib.hid (show ((vs.take x ++ vs.drop (x + 1)).flatMap cl_IndexDef).length = (M - 1) * 2 by rw [List.flatMap_append, List.length_append, HTK.out, HD2.out]; have := HXM.out; omega)
     have S15 := Lib.hid (show Sl.Sep w _ [_, _, _, _, _, Sv.ownV 73 2 (some ⟨g9, 0, none⟩) uc3 (M - 1) ((vs.take x ++ vs.drop (x + 1)).flatMap cl_IndexDef), _] from (by have h := Run.shorter S14.out 5 rfl (M - 1) (by omega); rw [List.take_left' HAL.out] at h; exact h))
     clear S14
     have HLZ := Lib.hid (show (vs.eraseIdx x).length = M - 1 from by rw [List.length_eraseIdx, if_pos (by have := HXM.out; have := HVL.out; omega), HVL.out])
     have S16 := Lib.hid (show Sl.Sep w _ [_, _, _, Bag.bag ([row_Store a3 c3 ys]), _, _, _] from Bag.bag_of_one S15.out 3 (r := row_Store a3 c3 ys) (by unfold RowS.res row_Store; dsimp only; rw [HYL.out]; rfl))
     clear S15
     have S17 := Lib.hid (show Sl.Sep w _ [_, _, _, _, _, Bag.bag ([row_IndexDef (some ⟨g9, 0, none⟩) uc3 (vs.eraseIdx x)]), _] from Bag.bag_of_one S16.out 5 (r := row_IndexDef (some ⟨g9, 0, none⟩) uc3 (vs.eraseIdx x)) (by unfold RowS.res row_IndexDef; dsimp only; rw [HLZ.out, HE.out]; rfl))
     clear S16
     have S18 := Lib.hid (show Sl.Sep w _ [_, _, _, Bag.bag ([row_Store a3 c3 ys] ++ (rws_Store ys)), _, _, Bag.bag ([])] from Bag.bag_join S17.out 3 6 (by decide) rfl rfl)
     clear S17
     have S19 := Lib.hid (show Sl.Sep w _ [_, _, _, Bag.bag ([row_Store a3 c3 ys] ++ (rws_Store ys) ++ ([row_IndexDef (some ⟨g9, 0, none⟩) uc3 (vs.eraseIdx x)])), _, Bag.bag ([]), Bag.bag ([])] from Bag.bag_join S18.out 3 5 (by decide) rfl rfl)
     clear S18
     have S20 := Lib.hid (show Sl.Sep w _ [_, _, _, _, _] from Bag.take S19.out [0, 1, 2, 3, 4] (by rfl) (by decide))
     clear S19
     clear hn1
     go_wp2_with fail
     go_meet
     case rel => exact ⟨(⟨nm, vr, a3, c3, ys, some ⟨g9, 0, none⟩, uc3, vs.eraseIdx x⟩ : Y_Database), { D with f_Unique := D.f_Unique.eraseIdx x }, raw_no HXO.out, by rw [HDC.out]; unfold co_Database; dsimp only; rw [HCE.out]; rfl, Lib.hid (by dsimp only; rw [HYL.out, HLZ.out]; exact S20.out)⟩
  have hb4 : (uk == 4) = false := by simpa using hk4
  have HKK := Lib.hid (And.intro hk1 (And.intro hk2 (And.intro hk3 hk4)))
  clear hk1 hk2 hk3 hk4
  obtain ⟨f0, f1, f2⟩ := Bag.cs3 S10.out 1 rfl
  obtain ⟨f3, f4, f5, f6⟩ := Bag.cs4 S10.out 2 rfl
  obtain ⟨f7, f8, f9, f10⟩ := Bag.cs4 S10.out 4 rfl
  obtain ⟨z0, z1, z2, z3⟩ := Bag.fs4 S10.out 2 rfl
  go_wp2_with fail
  clear f0 f1 f2 f3 f4 f5 f6 f7 f8 f9 f10 z0 z1 z2 z3
  have S11 := Lib.hid (show Sl.Sep w _ [L4.boxR w.heap.size 33 #[.string nm, .int .i64 vr, .slice sa N sc, .slice ua M uc], L4.boxR (w.heap.size + 1) 37 #[.int .i64 uk, .string un, .string uf], L4.boxR (w.heap.size + 1 + 1) 33 #[.string nm, .int .i64 vr, .slice a3 N c3, .slice ub M uc3], Sv.ownV 70 3 a3 c3 N (ys.flatMap cl_Store), L4.boxR g1 33 #[.string nm, .int .i64 vr, .slice a3 N c3, .slice ub M uc3], Sv.ownV 73 2 ub uc3 M (vs.flatMap cl_IndexDef), Bag.bag (rws_Store ys)] from L5.put_box5 (L5.put_box5 (L5.put_box5 (L5.put_box5 (S10.out) 2 rfl 0 (.string nm)) 2 rfl 1 (.int .i64 vr)) 2 rfl 2 (.slice a3 N c3)) 2 rfl 3 (.slice ub M uc3))
  clear S10
  obtain ⟨f0, f1, f2, f3⟩ := Bag.cs4 S11.out 2 rfl
  refine bodyPost_ret (v := .tuple #[.agg #[.string nm, .int .i64 vr, .slice a3 N c3, .slice ub M uc3], .bool false]) (by simp [results, Tryz.results8, go_sem, *]) rfl ?_
  clear f0 f1 f2 f3
  have S12 := Lib.hid (show Sl.Sep w _ [_, _, _, Bag.bag ([row_Store a3 c3 ys]), _, _, _] from Bag.bag_of_one S11.out 3 (r := row_Store a3 c3 ys) (by unfold RowS.res row_Store; dsimp only; rw [HYL.out]; rfl))
  clear S11
  have S13 := Lib.hid (show Sl.Sep w _ [_, _, _, _, _, Bag.bag ([row_IndexDef ub uc3 vs]), _] from Bag.bag_of_one S12.out 5 (r := row_IndexDef ub uc3 vs) (by unfold RowS.res row_IndexDef; dsimp only; rw [HVL.out]; rfl))
  clear S12
  have S14 := Lib.hid (show Sl.Sep w _ [_, _, _, Bag.bag ([row_Store a3 c3 ys] ++ (rws_Store ys)), _, _, Bag.bag ([])] from Bag.bag_join S13.out 3 6 (by decide) rfl rfl)
  clear S13
  have S15 := Lib.hid (show Sl.Sep w _ [_, _, _, Bag.bag ([row_Store a3 c3 ys] ++ (rws_Store ys) ++ ([row_IndexDef ub uc3 vs])), _, Bag.bag ([]), Bag.bag ([])] from Bag.bag_join S14.out 3 5 (by decide) rfl rfl)
  clear S14
  obtain ⟨e1, e2⟩ := up_none (raw_other (u := (⟨uk, un, uf⟩ : X_Upgrade)) HKK.out.1 HKK.out.2.1 HKK.out.2.2.1 HKK.out.2.2.2)
  rw [e1, e2]
  exact ⟨(⟨nm, vr, a3, c3, ys, ub, uc3, vs⟩ : Y_Database), by unfold vv_Database; dsimp only; rw [HYL.out, HVL.out], by rw [HDC.out]; unfold co_Database; dsimp only; rw [HCE.out]; rfl, Bag.bag_from S15.out 3 rfl, S15.out.old⟩
 case rest =>
  obtain ⟨y, O, hraw, hco, hq⟩ := hcut
  have HRAW := Lib.hid hraw
  have HUP := Lib.hid (up_raw hraw)
  have HCO := Lib.hid hco
  clear hraw hco
  obtain ⟨w5, hww, hSS⟩ : ∃ u, u = _ ∧ Sl.Sep w u [L4.boxR w.heap.size 33 #[.string nm, .int .i64 vr, .slice sa N sc, .slice ua M uc], L4.boxR (w.heap.size + 1) 37 #[.int .i64 uk, .string un, .string uf], L4.boxR (w.heap.size + 1 + 1) 33 #[.string ⟨#[]⟩, .int .i64 0, .slice none 0 0, .slice none 0 0], Bag.bag (rw_Database y), L4.boxR g1 33 #[.string y.f_Name, .int .i64 y.f_Version, .slice y.f_Stores_a y.f_Stores.length y.f_Stores_c, .slice y.f_Unique_a y.f_Unique.length y.f_Unique_c]] := ⟨_, rfl, hq.out⟩
  subst hww
  have S11 := Lib.hid hSS
  clear hSS hq S10
  obtain ⟨f0, f1, f2, f3⟩ := Bag.cs4 S11.out 0 rfl
  obtain ⟨f4, f5, f6, f7⟩ := Bag.cs4 S11.out 4 rfl
  cases B with
  | false =>
   go_wp2_with fail
   go_at_call 34
   refine (HVD.out _ S11.out.old).mono ?_
   rintro e w6 ⟨rfl, hb⟩
   clear f0 f1 f2 f3 f4 f5 f6 f7
   have S12 := Lib.hid (S11.out.keep hb)
   clear S11
   clear hb
   obtain ⟨f0, f1, f2, f3⟩ := Bag.cs4 S12.out 0 rfl
   obtain ⟨f4, f5, f6, f7⟩ := Bag.cs4 S12.out 4 rfl
   go_wp2_with fail
   go_at_call 30
   refine (HCP.out _ S12.out.old).mono ?_
   rintro e w7 ⟨y9, rfl, hcy, ho, hb⟩
   clear f0 f1 f2 f3 f4 f5 f6 f7
   have S13 := Lib.hid (show Sl.Sep w _ [_, _, L4.boxR (w.heap.size + 1 + 1) 33 #[.string ⟨#[]⟩, .int .i64 0, .slice none 0 0, .slice none 0 0], Bag.bag (rw_Database y), L4.boxR g1 33 #[.string y.f_Name, .int .i64 y.f_Version, .slice y.f_Stores_a y.f_Stores.length y.f_Stores_c, .slice y.f_Unique_a y.f_Unique.length y.f_Unique_c], Bag.bag (rw_Database y9)] from Bag.push_bag S12.out hb ho)
   clear S12
   clear hb ho
   have HCY9 := Lib.hid hcy
   clear hcy
   unfold vv_Database
   obtain ⟨f0, f1, f2, f3⟩ := Bag.cs4 S13.out 2 rfl
   obtain ⟨z0, z1, z2, z3⟩ := Bag.fs4 S13.out 2 rfl
   go_wp2_with fail
   clear f0 f1 f2 f3 z0 z1 z2 z3
   have S14 := Lib.hid (show Sl.Sep w _ [_, _, L4.boxR (w.heap.size + 1 + 1) 33 #[.string y9.f_Name, .int .i64 y9.f_Version, .slice y9.f_Stores_a y9.f_Stores.length y9.f_Stores_c, .slice y9.f_Unique_a y9.f_Unique.length y9.f_Unique_c], _, _, _] from L5.put_box5 (L5.put_box5 (L5.put_box5 (L5.put_box5 (S13.out) 2 rfl 0 (.string y9.f_Name)) 2 rfl 1 (.int .i64 y9.f_Version)) 2 rfl 2 (.slice y9.f_Stores_a y9.f_Stores.length y9.f_Stores_c)) 2 rfl 3 (.slice y9.f_Unique_a y9.f_Unique.length y9.f_Unique_c))
   clear S13
   obtain ⟨f0, f1, f2, f3⟩ := Bag.cs4 S14.out 2 rfl
   refine bodyPost_ret (v := .tuple #[.agg #[.string y9.f_Name, .int .i64 y9.f_Version, .slice y9.f_Stores_a y9.f_Stores.length y9.f_Stores_c, .slice y9.f_Unique_a y9.f_Unique.length y9.f_Unique_c], .bool false]) (by simp [results, Tryz.results8, go_sem, *]) rfl ?_
   clear f0 f1 f2 f3
   obtain ⟨e1, e2⟩ := (show upD D (⟨uk, un, uf⟩ : X_Upgrade) = D ∧ upB D (⟨uk, un, uf⟩ : X_Upgrade) = false from by obtain ⟨h1, h2⟩ := HUP.out; rw [h1, h2, HB.out]; exact ⟨rfl, rfl⟩)
   rw [e1, e2]
   exact ⟨y9, rfl, HCY9.out, Bag.bag_from S14.out 5 rfl, S14.out.old⟩
  | true =>
   obtain ⟨B2, hB2⟩ : ∃ b, isD O = b := ⟨_, rfl⟩
   have HIY := fun w' (hr : RowsRd w' w'.heap.size (rw_Database y)) => specIsDatabase_any y (by rw [HCO.out]; exact HFDD.out.raw HB.out HUN.out.1 HUN.out.2 HRAW.out) w' hr
   rw [HCO.out, hB2] at HIY
   unfold vv_Database at HIY
   replace HIY := Lib.hid HIY
   have HB2 := Lib.hid hB2
   clear hB2
   go_wp2_with fail
   go_at_call 34
   refine (HVD.out _ S11.out.old).mono ?_
   rintro e w6 ⟨rfl, hb⟩
   clear f0 f1 f2 f3 f4 f5 f6 f7
   have S12 := Lib.hid (S11.out.keep hb)
   clear S11
   clear hb
   obtain ⟨f0, f1, f2, f3⟩ := Bag.cs4 S12.out 0 rfl
   obtain ⟨f4, f5, f6, f7⟩ := Bag.cs4 S12.out 4 rfl
   go_wp2_with fail
   go_at_call 34
   refine (HIY.out _ (Bag.bag_rd S12.out 3 rfl)).mono ?_
   rintro e w7 ⟨rfl, hb⟩
   clear f0 f1 f2 f3 f4 f5 f6 f7
   have S13 := Lib.hid (S12.out.keep hb)
   clear S12
   clear hb
   obtain ⟨f0, f1, f2, f3⟩ := Bag.cs4 S13.out 0 rfl
   obtain ⟨f4, f5, f6, f7⟩ := Bag.cs4 S13.out 4 rfl
   cases B2 with
   | false =>
    go_wp2_with fail
    go_at_call 30
    refine (HCP.out _ S13.out.old).mono ?_
    rintro e w8 ⟨y9, rfl, hcy, ho, hb⟩
    clear f0 f1 f2 f3 f4 f5 f6 f7
    have S14 := Lib.hid (show Sl.Sep w _ [_, _, _, _, _, _] from Bag.push_bag S13.out hb ho)
    clear S13
    clear hb ho
    have HCY9 := Lib.hid hcy
    clear hcy
    unfold vv_Database
    obtain ⟨f0, f1, f2, f3⟩ := Bag.cs4 S14.out 2 rfl
    obtain ⟨z0, z1, z2, z3⟩ := Bag.fs4 S14.out 2 rfl
    go_wp2_with fail
    clear f0 f1 f2 f3 z0 z1 z2 z3
    have S15 := Lib.hid (show Sl.Sep w _ [_, _, L4.boxR (w.heap.size + 1 + 1) 33 #[.string y9.f_Name, .int .i64 y9.f_Version, .slice y9.f_Stores_a y9.f_Stores.length y9.f_Stores_c, .slice y9.f_Unique_a y9.f_Unique.length y9.f_Unique_c], _, _, _] from L5.put_box5 (L5.put_box5 (L5.put_box5 (L5.put_box5 (S14.out) 2 rfl 0 (.string y9.f_Name)) 2 rfl 1 (.int .i64 y9.f_Version)) 2 rfl 2 (.slice y9.f_Stores_a y9.f_Stores.length y9.f_Stores_c)) 2 rfl 3 (.slice y9.f_Unique_a y9.f_Unique.length y9.f_Unique_c))
    clear S14
    obtain ⟨f0, f1, f2, f3⟩ := Bag.cs4 S15.out 2 rfl
    refine bodyPost_ret (v := .tuple #[.agg #[.string y9.f_Name, .int .i64 y9.f_Version, .slice y9.f_Stores_a y9.f_Stores.length y9.f_Stores_c, .slice y9.f_Unique_a y9.f_Unique.length y9.f_Unique_c], .bool false]) (by simp [results, Tryz.results8, go_sem, *]) rfl ?_
    clear f0 f1 f2 f3
    obtain ⟨e1, e2⟩ := (show upD D (⟨uk, un, uf⟩ : X_Upgrade) = D ∧ upB D (⟨uk, un, uf⟩ : X_Upgrade) = false from by obtain ⟨h1, h2⟩ := HUP.out; rw [h1, h2, HB2.out]; exact ⟨by simp, by simp⟩)
    rw [e1, e2]
    exact ⟨y9, rfl, HCY9.out, Bag.bag_from S15.out 5 rfl, S15.out.old⟩
   | true =>
    clear f0 f1 f2 f3 f4 f5 f6 f7
    obtain ⟨f0, f1, f2⟩ := Bag.cs3 S13.out 1 rfl
    obtain ⟨f3, f4, f5, f6⟩ := Bag.cs4 S13.out 2 rfl
    obtain ⟨f7, f8, f9, f10⟩ := Bag.cs4 S13.out 4 rfl
    obtain ⟨z0, z1, z2, z3⟩ := Bag.fs4 S13.out 2 rfl
    go_wp2_with fail
    clear f0 f1 f2 f3 f4 f5 f6 f7 f8 f9 f10 z0 z1 z2 z3
    have S14 := Lib.hid (show Sl.Sep w _ [_, _, L4.boxR (w.heap.size + 1 + 1) 33 #[.string y.f_Name, .int .i64 y.f_Version, .slice y.f_Stores_a y.f_Stores.length y.f_Stores_c, .slice y.f_Unique_a y.f_Unique.length y.f_Unique_c], _, _] from L5.put_box5 (L5.put_box5 (L5.put_box5 (L5.put_box5 (S13.out) 2 rfl 0 (.string y.f_Name)) 2 rfl 1 (.int .i64 y.f_Version)) 2 rfl 2 (.slice y.f_Stores_a y.f_Stores.length y.f_Stores_c)) 2 rfl 3 (.slice y.f_Unique_a y.f_Unique.length y.f_Unique_c))
    clear S13
    obtain ⟨f0, f1, f2, f3⟩ := Bag.cs4 S14.out 2 rfl
    refine bodyPost_ret (v := .tuple #[.agg #[.string y.f_Name, .int .i64 y.f_Version, .slice y.f_Stores_a y.f_Stores.length y.f_Stores_c, .slice y.f_Unique_a y.f_Unique.length y.f_Unique_c], .bool true]) (by simp [results, Tryz.results8, go_sem, *]) rfl ?_
    clear f0 f1 f2 f3
    obtain ⟨e1, e2⟩ := (show upD D (⟨uk, un, uf⟩ : X_Upgrade) = O ∧ upB D (⟨uk, un, uf⟩ : X_Upgrade) = true from by obtain ⟨h1, h2⟩ := HUP.out; rw [h1, h2, HB2.out, HB.out]; exact ⟨rfl, rfl⟩)
    rw [e1, e2]
    exact ⟨y, rfl, HCO.out, Bag.bag_from S14.out 3 rfl, S14.out.old⟩
theorem specApplyUpgrade_any (z : Y_Database) (u : X_Upgrade) (hf : FitD (co_Database z)) (hn : u.f_Store.size ≤ 281474976710656) (hx : u.f_Field.size ≤ 281474976710656) (w : World) (hr : RowsRd w w.heap.size (rw_Database z)) :
  Calls Tryz.prog 8 #[vv_Database z, vv_Upgrade u] w (GaveDB w (upD (co_Database z) u) (upB (co_Database z) u)) := specApplyUpgrade_flat z u.f_Kind u.f_Store u.f_Field hf hn hx w hr
end Go.Proofs.YthljdhfgphebnaaGreat.L8

set_option linter.unusedSimpArgs false
namespace Go.Proofs.YthljdhfgphebnaaGreat.L8
open V L6 L7
open L4 (K isK cmpK)
open L5 (F isR isN string_geq)
open Go.Op (bytesLess)
open Go.ChangeShapes Go.WideShapes Go.ChangeAt Go.RowKit Mem Sl Ex L2 Sv Bag

theorem to_some {d o : X_Database} {v : Int} {us : List X_Upgrade} (h : allD d us = some o) : toO d v us = if decide (d.f_Version < v) && (isD d && isD { o with f_Version := v }) then some { o with f_Version := v } else none := by unfold toO; rw [h]
theorem to_no {d o : X_Database} {v : Int} {us : List X_Upgrade} (h : allD d us = some o) (hb : (decide (d.f_Version < v) && (isD d && isD { o with f_Version := v })) = false) : toD d v us = d ∧ toB d v us = false := by
 unfold toD toB; rw [to_some h, hb]; exact ⟨rfl, rfl⟩
theorem to_yes {d o : X_Database} {v : Int} {us : List X_Upgrade} (h : allD d us = some o) (hb : (decide (d.f_Version < v) && (isD d && isD { o with f_Version := v })) = true) : toD d v us = { o with f_Version := v } ∧ toB d v us = true := by
 unfold toD toB; rw [to_some h, hb]; exact ⟨rfl, rfl⟩
theorem to_none {d : X_Database} {v : Int} {us : List X_Upgrade} (h : allD d us = none) : toD d v us = d ∧ toB d v us = false := by
 have h2 : toO d v us = none := by unfold toO; rw [h]
 unfold toD toB; rw [h2]; exact ⟨rfl, rfl⟩
theorem FitD.ver {d : X_Database} (h : FitD d) (v : Int) : FitD { d with f_Version := v } := ⟨h.name, h.len, h.stores, h.many, h.unique⟩

set_option maxHeartbeats 8000000 in
theorem specUpgradeTo_any (z : Y_Database) (v : Int) (sa : Option Addr) (sc : Nat) (us : List X_Upgrade) (hf : FitD (co_Database z)) (hl : us.length ≤ 1048576) (hu : ∀ u ∈ us, u.f_Store.size ≤ 281474976710656 ∧ u.f_Field.size ≤ 281474976710656) (w : World) (hr : RowsRd w w.heap.size (rw_Database z)) (hs : Reads w w.heap.size sa (us.flatMap cl_Upgrade)) :
  Calls Tryz.prog 16 #[vv_Database z, .int .i64 v, .slice sa us.length sc] w (GaveDB w (toD (co_Database z) v us) (toB (co_Database z) v us)) := by
 have HVD := fun w' (h : Below w.heap.size w w') => specIsDatabase_any z hf w' ((hr.below h).more h.size)
 have HCP := fun w' (h : Below w.heap.size w w') => l8Copy_any z hf w' ((hr.below h).more h.size)
 obtain ⟨D, hD⟩ : ∃ D, co_Database z = D := ⟨_, rfl⟩
 rw [hD] at HVD HCP hf ⊢
 have HFD := Lib.hid hf
 have HDV := Lib.hid (show D.f_Version = z.f_Version from by rw [← hD]; rfl)
 clear hD hf hr
 obtain ⟨B, hB⟩ : ∃ B, isD D = B := ⟨_, rfl⟩
 rw [hB] at HVD
 have HB := Lib.hid hB
 clear hB
 unfold vv_Database at HVD HCP ⊢
 obtain ⟨N, hN⟩ : ∃ N, N = z.f_Stores.length := ⟨_, rfl⟩
 obtain ⟨M, hM⟩ : ∃ M, M = z.f_Unique.length := ⟨_, rfl⟩
 rw [← hN, ← hM] at HVD HCP ⊢
 clear hN hM
 replace HVD := Lib.hid HVD
 replace HCP := Lib.hid HCP
 have HUS := Lib.hid (fun w' (h : Below w.heap.size w w') => hs.below h)
 have HUF := Lib.hid hu
 obtain ⟨K, hK⟩ : ∃ K, K = us.length := ⟨_, rfl⟩
 rw [← hK] at hl ⊢
 have hl' : (K : Int) ≤ 1048576 := by omega
 have HK := Lib.hid hK
 clear hs hu hK
 have S1 := Lib.hid (show Sl.Sep w _ [_, _] from L4.push_box (L4.push_box (Sl.Sep.start w) 33 #[.string z.f_Name, .int .i64 z.f_Version, .slice z.f_Stores_a N z.f_Stores_c, .slice z.f_Unique_a M z.f_Unique_c] (w.heap.size) (by simp)) 33 #[.string ⟨#[]⟩, .int .i64 0, .slice none 0 0, .slice none 0 0] (w.heap.size + 1) (by simp))
 obtain ⟨wa, hwa⟩ : ∃ w_, w_ = ((w.alloc (.cells #[.string z.f_Name, .int .i64 z.f_Version, .slice z.f_Stores_a N z.f_Stores_c, .slice z.f_Unique_a M z.f_Unique_c] 33)).alloc (.cells #[.string ⟨#[]⟩, .int .i64 0, .slice none 0 0, .slice none 0 0] 33)) := ⟨_, rfl⟩
 rw [← hwa] at S1
 go_enter Tryz.func16, Tryz.ntmps16
 go_upto_region 1 with fail
 rw [← hwa]
 clear hwa
 obtain ⟨f0, f1, f2, f3⟩ := Bag.cs4 S1.out 0 rfl
 go_wp2_with fail
 go_at_call 30
 refine (HCP.out _ S1.out.old).mono ?_
 rintro e w1 ⟨y3, rfl, hcy, ho, hb⟩
 clear f0 f1 f2 f3
 have S2 := Lib.hid (show Sl.Sep w _ [_, _, Bag.bag (rw_Database y3)] from Bag.push_bag S1.out hb ho)
 clear S1
 clear hb ho
 have HCY3 := Lib.hid hcy
 clear hcy
 unfold vv_Database
 obtain ⟨f0, f1, f2, f3⟩ := Bag.cs4 S2.out 0 rfl
 go_upto_region 2 with fail
 clear f0 f1 f2 f3
 have S3 := Lib.hid (show Sl.Sep w _ [_, _, _, _] from L4.push_box S2.out 33 #[.string y3.f_Name, .int .i64 y3.f_Version, .slice y3.f_Stores_a y3.f_Stores.length y3.f_Stores_c, .slice y3.f_Unique_a y3.f_Unique.length y3.f_Unique_c] w1.heap.size rfl)
 clear S2
 obtain ⟨g1, hg⟩ : ∃ g', g' = w1.heap.size := ⟨_, rfl⟩
 rw [← hg] at S3 ⊢
 clear hg
 generalize w1.alloc (.cells #[.string y3.f_Name, .int .i64 y3.f_Version, .slice y3.f_Stores_a y3.f_Stores.length y3.f_Stores_c, .slice y3.f_Unique_a y3.f_Unique.length y3.f_Unique_c] 33) = w2 at S3 ⊢
 go_wp2_with fail
 go_loopw [9] (fun i wr => ∃ (k : Nat) (y : Y_Database), k ≤ K ∧ i = .int .i64 k ∧ Hid (allD D (us.take k) = some (co_Database y) ∧ Sl.Sep w wr [L4.boxR w.heap.size 33 #[.string z.f_Name, .int .i64 z.f_Version, .slice z.f_Stores_a N z.f_Stores_c, .slice z.f_Unique_a M z.f_Unique_c], L4.boxR (w.heap.size + 1) 33 #[.string ⟨#[]⟩, .int .i64 0, .slice none 0 0, .slice none 0 0], Bag.bag (rw_Database y), L4.boxR g1 33 #[.string y.f_Name, .int .i64 y.f_Version, .slice y.f_Stores_a y.f_Stores.length y.f_Stores_c, .slice y.f_Unique_a y.f_Unique.length y.f_Unique_c]])) (fun i _ => K - (intOf i).toNat)
 case atStart => exact ⟨0, y3, Nat.zero_le _, rfl, And.intro (by rw [List.take_zero, HCY3.out]; rfl) S3.out⟩
 case round =>
  obtain ⟨k, y, hk, rfl, hrel⟩ := hrel
  have HA := Lib.hid hrel.out.1
  have S4 := Lib.hid hrel.out.2
  clear hrel S3
  by_cases hlt : (k : Int) < (K : Int)
  ·
   skip
   have hkl : k < us.length := by have := HK.out; omega
   obtain ⟨u, hu⟩ : ∃ u, us[k]? = some u := ⟨_, List.getElem?_eq_getElem hkl⟩
   obtain ⟨pad, e'⟩ := el_some cl_Upgrade_len (by decide) (HUS.out _ S4.out.old) hkl
   subst e'
   have HKu := Lib.hid (fun w' (h : Below w.heap.size w w') => el3 cl_Upgrade_len (HUS.out _ h) hu rfl)
   have HFu := Lib.hid (HUF.out u (List.mem_of_getElem? hu))
   have HTK := Lib.hid (take_next hu)
   have HSP := Lib.hid (split_next hu)
   have HFY := Lib.hid (show FitD (co_Database y) from FitD.allD HFD.out (fun u hu => HUF.out u (List.mem_of_mem_take hu)) HA.out)
   obtain ⟨ub, hub⟩ : ∃ b, upB (co_Database y) u = b := ⟨_, rfl⟩
   obtain ⟨UD, hUD⟩ : ∃ d, upD (co_Database y) u = d := ⟨_, rfl⟩
   have HAP := fun w' (hr : RowsRd w' w'.heap.size (rw_Database y)) => specApplyUpgrade_any y u HFY.out HFu.out.1 HFu.out.2 w' hr
   rw [hub, hUD] at HAP
   unfold vv_Database vv_Upgrade at HAP
   replace HAP := Lib.hid HAP
   have HNX := Lib.hid (show allD D (us.take (k + 1)) = if ub then some UD else none from by rw [HTK.out, all_snoc, HA.out]; dsimp only; rw [hub, hUD])
   clear hub hUD hu
   obtain ⟨f0, f1, f2, f3⟩ := Bag.cs4 S4.out 0 rfl
   obtain ⟨f4, f5, f6, f7⟩ := Bag.cs4 S4.out 1 rfl
   obtain ⟨f8, f9, f10, f11⟩ := Bag.cs4 S4.out 3 rfl
   obtain ⟨f12, f13, f14⟩ := HKu.out _ S4.out.old
   go_upto_region 5 with fail
   clear f0 f1 f2 f3 f4 f5 f6 f7 f8 f9 f10 f11 f12 f13 f14
   refine wp_region_held_drew (S := (fun w' => (w'.cell? ⟨g1, 0, none⟩ = some (.string y.f_Name) ∧ w'.cell? ⟨g1, 1, none⟩ = some (.int .i64 y.f_Version) ∧ w'.cell? ⟨g1, 2, none⟩ = some (.slice y.f_Stores_a y.f_Stores.length y.f_Stores_c) ∧ w'.cell? ⟨g1, 3, none⟩ = some (.slice y.f_Unique_a y.f_Unique.length y.f_Unique_c)) ∧ (w'.cell? (pad.add (k * 3)) = some (.int .i64 u.f_Kind) ∧ w'.cell? (⟨(pad.add (k * 3)).block, (pad.add (k * 3)).off + 1, none⟩) = some (.string u.f_Store) ∧ w'.cell? (⟨(pad.add (k * 3)).block, (pad.add (k * 3)).off + 2, none⟩) = some (.string u.f_Field)))) (by kernel_rfl) ⟨Bag.cs4 (Bag.drew1 S4.out) 3 rfl, HKu.out _ (Bag.drew1 S4.out).old⟩ (fun hS => ?_)
   have S5 := Lib.hid (Bag.drew1 S4.out)
   clear S4
   generalize World.drew _ = w3 at hS S5 ⊢
   apply share3
   case main =>
    intro hrest
    refine tk 0 rfl ?_
    try simp only [zp0, zp1, zp2, zp3, zp4]
    refine tk 1 rfl ?_
    try simp only [zp0, zp1, zp2, zp3, zp4]
    refine tk 2 rfl ?_
    try simp only [zp0, zp1, zp2, zp3, zp4]
    refine tk 3 rfl ?_
    try simp only [zp0, zp1, zp2, zp3, zp4]
    refine tk 4 rfl ?_
    try simp only [zp0, zp1, zp2, zp3, zp4]
    refine wpAnyH_ready (rs := [5, 9]) (by kernel_rfl) (by simp) ?_
    refine Reg.cons_op (i := 5) rfl (fun K hK => ?_) ?_
    go_simp
    go_at_call 8
    refine (HAP.out _ (Bag.bag_rd S5.out 2 rfl)).mono ?_
    rintro e w4 ⟨y2, rfl, hcy2, ho, hb⟩
    have S6 := Lib.hid (show Sl.Sep w _ [_, _, _, _, Bag.bag (rw_Database y2)] from Bag.push_bag S5.out hb ho)
    clear ho hb
    have HCY2 := Lib.hid hcy2
    clear hcy2
    unfold vv_Database
    go_wp2_with fail
    refine hK.out _ _ ⟨Bag.cs4 S6.out 3 rfl, HKu.out _ S6.out.old⟩ (fun hS => ?_)
    clear hK K
    try simp only [zp0, zp1, zp2, zp3, zp4]
    refine tk 6 rfl ?_
    try simp only [zp0, zp1, zp2, zp3, zp4]
    refine tk 7 rfl ?_
    try simp only [zp0, zp1, zp2, zp3, zp4]
    refine tk 8 rfl ?_
    try simp only [zp0, zp1, zp2, zp3, zp4]
    refine Reg.one_op (i := 9) rfl (by kernel_rfl) (fun K hK => ?_)
    go_simp
    have S7 := Lib.hid (show Sl.Sep w _ [_, _, _, _, _, _] from L4.push_box S6.out 33 #[.string ⟨#[]⟩, .int .i64 0, .slice none 0 0, .slice none 0 0] w4.heap.size rfl)
    clear S6
    obtain ⟨gb0, hg⟩ : ∃ g', g' = w4.heap.size := ⟨_, rfl⟩
    rw [← hg] at S7 ⊢
    clear hg
    generalize w4.alloc (.cells #[.string ⟨#[]⟩, .int .i64 0, .slice none 0 0, .slice none 0 0] 33) = w5 at S7 ⊢
    refine hK.out _ _ ⟨Bag.cs4 S7.out 3 rfl, HKu.out _ S7.out.old⟩ (fun hS => ?_)
    clear hK K
    try simp only [zp0, zp1, zp2, zp3, zp4]
    have S8 := Lib.hid (show Sl.Sep w _ [_, _, _, _, _, L4.boxR gb0 33 #[.string ⟨#[]⟩, .int .i64 0, .slice none 0 0, .slice none 0 0]] from Bag.take S7.out [0, 1, 2, 3, 4, 5] (by rfl) (by decide))
    clear S7
    revert S8
    revert HCY2
    revert hS
    exact hrest gb0 y2 w5
    refine Reg.cons_op (i := 9) rfl (fun K hK => ?_) ?_
    go_simp
    have S6 := Lib.hid (show Sl.Sep w _ [_, _, _, _, _] from L4.push_box S5.out 33 #[.string ⟨#[]⟩, .int .i64 0, .slice none 0 0, .slice none 0 0] w3.heap.size rfl)
    obtain ⟨gb0, hg⟩ : ∃ g', g' = w3.heap.size := ⟨_, rfl⟩
    rw [← hg] at S6 ⊢
    clear hg
    generalize w3.alloc (.cells #[.string ⟨#[]⟩, .int .i64 0, .slice none 0 0, .slice none 0 0] 33) = w4 at S6 ⊢
    refine hK.out _ _ ⟨Bag.cs4 S6.out 3 rfl, HKu.out _ S6.out.old⟩ (fun hS => ?_)
    clear hK K
    try simp only [zp0, zp1, zp2, zp3, zp4]
    refine Reg.one_op (i := 5) rfl (by kernel_rfl) (fun K hK => ?_)
    go_simp
    go_at_call 8
    refine (HAP.out _ (Bag.bag_rd S6.out 2 rfl)).mono ?_
    rintro e w5 ⟨y2, rfl, hcy2, ho, hb⟩
    have S7 := Lib.hid (show Sl.Sep w _ [_, _, _, _, L4.boxR gb0 33 #[.string ⟨#[]⟩, .int .i64 0, .slice none 0 0, .slice none 0 0], Bag.bag (rw_Database y2)] from Bag.push_bag S6.out hb ho)
    clear S6
    clear ho hb
    have HCY2 := Lib.hid hcy2
    clear hcy2
    unfold vv_Database
    go_wp2_with fail
    refine hK.out _ _ ⟨Bag.cs4 S7.out 3 rfl, HKu.out _ S7.out.old⟩ (fun hS => ?_)
    clear hK K
    try simp only [zp0, zp1, zp2, zp3, zp4]
    refine tk 6 rfl ?_
    try simp only [zp0, zp1, zp2, zp3, zp4]
    refine tk 7 rfl ?_
    try simp only [zp0, zp1, zp2, zp3, zp4]
    refine tk 8 rfl ?_
    try simp only [zp0, zp1, zp2, zp3, zp4]
    have S8 := Lib.hid (show Sl.Sep w _ [_, _, _, _, _, _] from Bag.take S7.out [0, 1, 2, 3, 5, 4] (by rfl) (by decide))
    clear S7
    revert S8
    revert HCY2
    revert hS
    exact hrest gb0 y2 w5
    exact AllReadyH.nil
   case pf =>
    intro gb0 y2 w5 hS HCY2 S8
    refine Reg.one_op (i := 10) rfl (by kernel_rfl) (fun K hK => ?_)
    obtain ⟨f0, f1, f2, f3⟩ := Bag.cs4 S8.out 5 rfl
    obtain ⟨z0, z1, z2, z3⟩ := Bag.fs4 S8.out 5 rfl
    go_simp
    clear f0 f1 f2 f3 z0 z1 z2 z3
    have S9 := Lib.hid (show Sl.Sep w _ [_, _, _, _, _, L4.boxR gb0 33 #[.string y2.f_Name, .int .i64 y2.f_Version, .slice y2.f_Stores_a y2.f_Stores.length y2.f_Stores_c, .slice y2.f_Unique_a y2.f_Unique.length y2.f_Unique_c]] from L5.put_box5 (L5.put_box5 (L5.put_box5 (L5.put_box5 (S8.out) 5 rfl 0 (.string y2.f_Name)) 5 rfl 1 (.int .i64 y2.f_Version)) 5 rfl 2 (.slice y2.f_Stores_a y2.f_Stores.length y2.f_Stores_c)) 5 rfl 3 (.slice y2.f_Unique_a y2.f_Unique.length y2.f_Unique_c))
    clear S8
    refine hK.out _ _ ⟨Bag.cs4 S9.out 3 rfl, HKu.out _ S9.out.old⟩ (fun hS => ?_)
    clear hK K
    try simp only [zp0, zp1, zp2, zp3, zp4]
    refine tk 11 rfl ?_
    try simp only [zp0, zp1, zp2, zp3, zp4]
    refine wpAnyH_done (by kernel_rfl) ?_ _
    obtain ⟨f0, f1, f2, f3⟩ := Bag.cs4 S9.out 0 rfl
    obtain ⟨f4, f5, f6, f7⟩ := Bag.cs4 S9.out 5 rfl
    obtain ⟨f8, f9, f10⟩ := HKu.out _ S9.out.old
    cases ub with
    | false =>
     go_wp2_with fail
     go_at_call 30
     refine (HCP.out _ S9.out.old).mono ?_
     rintro e w6 ⟨y9, rfl, hcy, ho, hb⟩
     clear f0 f1 f2 f3 f4 f5 f6 f7 f8 f9 f10
     have S10 := Lib.hid (show Sl.Sep w _ [_, _, _, _, _, _, Bag.bag (rw_Database y9)] from Bag.push_bag S9.out hb ho)
     clear S9
     clear hb ho
     have HCY9 := Lib.hid hcy
     clear hcy
     unfold vv_Database
     obtain ⟨f0, f1, f2, f3⟩ := Bag.cs4 S10.out 1 rfl
     obtain ⟨f4, f5, f6⟩ := HKu.out _ S10.out.old
     obtain ⟨z0, z1, z2, z3⟩ := Bag.fs4 S10.out 1 rfl
     go_wp2_with fail
     clear f0 f1 f2 f3 f4 f5 f6 z0 z1 z2 z3
     have S11 := Lib.hid (show Sl.Sep w _ [_, L4.boxR (w.heap.size + 1) 33 #[.string y9.f_Name, .int .i64 y9.f_Version, .slice y9.f_Stores_a y9.f_Stores.length y9.f_Stores_c, .slice y9.f_Unique_a y9.f_Unique.length y9.f_Unique_c], _, _, _, _, _] from L5.put_box5 (L5.put_box5 (L5.put_box5 (L5.put_box5 (S10.out) 1 rfl 0 (.string y9.f_Name)) 1 rfl 1 (.int .i64 y9.f_Version)) 1 rfl 2 (.slice y9.f_Stores_a y9.f_Stores.length y9.f_Stores_c)) 1 rfl 3 (.slice y9.f_Unique_a y9.f_Unique.length y9.f_Unique_c))
     clear S10
     obtain ⟨f0, f1, f2, f3⟩ := Bag.cs4 S11.out 1 rfl
     obtain ⟨f4, f5, f6⟩ := HKu.out _ S11.out.old
     refine bodyPost_ret (v := .tuple #[.agg #[.string y9.f_Name, .int .i64 y9.f_Version, .slice y9.f_Stores_a y9.f_Stores.length y9.f_Stores_c, .slice y9.f_Unique_a y9.f_Unique.length y9.f_Unique_c], .bool false]) (by simp [results, Tryz.results16, go_sem, *]) rfl ?_
     clear f0 f1 f2 f3 f4 f5 f6
     obtain ⟨e1, e2⟩ := (to_none (by rw [HSP.out, show us.take k ++ u :: us.drop (k + 1) = us.take (k + 1) ++ us.drop (k + 1) from by rw [HTK.out, List.append_assoc]; rfl]; exact all_none HNX.out) : toD D v us = D ∧ toB D v us = false)
     rw [e1, e2]
     exact ⟨y9, rfl, HCY9.out, Bag.bag_from S11.out 6 rfl, S11.out.old⟩
    | true =>
     clear f0 f1 f2 f3 f4 f5 f6 f7 f8 f9 f10
     obtain ⟨f0, f1, f2, f3⟩ := Bag.cs4 S9.out 0 rfl
     obtain ⟨f4, f5, f6, f7⟩ := Bag.cs4 S9.out 1 rfl
     obtain ⟨f8, f9, f10, f11⟩ := Bag.cs4 S9.out 3 rfl
     obtain ⟨f12, f13, f14, f15⟩ := Bag.cs4 S9.out 5 rfl
     obtain ⟨f16, f17, f18⟩ := HKu.out _ S9.out.old
     obtain ⟨z0, z1, z2, z3⟩ := Bag.fs4 S9.out 3 rfl
     go_wp2_with fail
     clear f0 f1 f2 f3 f4 f5 f6 f7 f8 f9 f10 f11 f12 f13 f14 f15 f16 f17 f18 z0 z1 z2 z3
     have S10 := Lib.hid (show Sl.Sep w _ [_, _, _, L4.boxR g1 33 #[.string y2.f_Name, .int .i64 y2.f_Version, .slice y2.f_Stores_a y2.f_Stores.length y2.f_Stores_c, .slice y2.f_Unique_a y2.f_Unique.length y2.f_Unique_c], _, _] from L5.put_box5 (L5.put_box5 (L5.put_box5 (L5.put_box5 (S9.out) 3 rfl 0 (.string y2.f_Name)) 3 rfl 1 (.int .i64 y2.f_Version)) 3 rfl 2 (.slice y2.f_Stores_a y2.f_Stores.length y2.f_Stores_c)) 3 rfl 3 (.slice y2.f_Unique_a y2.f_Unique.length y2.f_Unique_c))
     clear S9
     have S11 := Lib.hid (show Sl.Sep w _ [_, _, _, _] from Bag.take S10.out [0, 1, 4, 3] (by rfl) (by decide))
     clear S10
     go_roundw
     case rel => exact ⟨k + 1, y2, by omega, by go_num, And.intro (by rw [HNX.out, HCY2.out]; rfl) S11.out⟩
     case measure => simp [intOf]; omega
  ·
   skip
   obtain rfl : k = K := by omega
   have hall : allD D us = some (co_Database y) := by have h := HA.out; rwa [List.take_of_length_le (by have := HK.out; omega)] at h
   have HALL := Lib.hid hall
   have HFY := Lib.hid (FitD.allD HFD.out HUF.out hall)
   clear hall
   obtain ⟨f0, f1, f2, f3⟩ := Bag.cs4 S4.out 1 rfl
   obtain ⟨f4, f5, f6, f7⟩ := Bag.cs4 S4.out 3 rfl
   obtain ⟨z0, z1, z2, z3⟩ := Bag.fs4 S4.out 3 rfl
   go_upto_region 10 with fail
   clear f0 f1 f2 f3 f4 f5 f6 f7 z0 z1 z2 z3
   have S5 := Lib.hid (show Sl.Sep w _ [L4.boxR w.heap.size 33 #[.string z.f_Name, .int .i64 z.f_Version, .slice z.f_Stores_a N z.f_Stores_c, .slice z.f_Unique_a M z.f_Unique_c], L4.boxR (w.heap.size + 1) 33 #[.string ⟨#[]⟩, .int .i64 0, .slice none 0 0, .slice none 0 0], Bag.bag (rw_Database y), L4.boxR g1 33 #[.string y.f_Name, .int .i64 v, .slice y.f_Stores_a y.f_Stores.length y.f_Stores_c, .slice y.f_Unique_a y.f_Unique.length y.f_Unique_c]] from L5.put_box5 (S4.out) 3 rfl 1 (.int .i64 v))
   clear S4
   obtain ⟨B2, hB2⟩ : ∃ b, isD { co_Database y with f_Version := v } = b := ⟨_, rfl⟩
   have HIY := fun w' (hr : RowsRd w' w'.heap.size (rw_Database y)) => specIsDatabase_any (⟨y.f_Name, v, y.f_Stores_a, y.f_Stores_c, y.f_Stores, y.f_Unique_a, y.f_Unique_c, y.f_Unique⟩ : Y_Database) (HFY.out.ver v) w' hr
   rw [show co_Database (⟨y.f_Name, v, y.f_Stores_a, y.f_Stores_c, y.f_Stores, y.f_Unique_a, y.f_Unique_c, y.f_Unique⟩ : Y_Database) = { co_Database y with f_Version := v } from rfl, hB2] at HIY
   unfold vv_Database at HIY
   try dsimp only at HIY
   replace HIY := Lib.hid HIY
   have HB2 := Lib.hid hB2
   clear hB2
   obtain ⟨f0, f1, f2, f3⟩ := Bag.cs4 S5.out 0 rfl
   obtain ⟨f4, f5, f6, f7⟩ := Bag.cs4 S5.out 3 rfl
   by_cases hv : v ≤ z.f_Version
   ·
    skip
    go_wp2_with fail
    go_at_call 30
    refine (HCP.out _ S5.out.old).mono ?_
    rintro e w3 ⟨y9, rfl, hcy, ho, hb⟩
    clear f0 f1 f2 f3 f4 f5 f6 f7
    have S6 := Lib.hid (show Sl.Sep w _ [_, _, _, _, Bag.bag (rw_Database y9)] from Bag.push_bag S5.out hb ho)
    clear S5
    clear hb ho
    have HCY9 := Lib.hid hcy
    clear hcy
    unfold vv_Database
    obtain ⟨f0, f1, f2, f3⟩ := Bag.cs4 S6.out 1 rfl
    obtain ⟨z0, z1, z2, z3⟩ := Bag.fs4 S6.out 1 rfl
    go_wp2_with fail
    clear f0 f1 f2 f3 z0 z1 z2 z3
    have S7 := Lib.hid (show Sl.Sep w _ [_, L4.boxR (w.heap.size + 1) 33 #[.string y9.f_Name, .int .i64 y9.f_Version, .slice y9.f_Stores_a y9.f_Stores.length y9.f_Stores_c, .slice y9.f_Unique_a y9.f_Unique.length y9.f_Unique_c], _, _, _] from L5.put_box5 (L5.put_box5 (L5.put_box5 (L5.put_box5 (S6.out) 1 rfl 0 (.string y9.f_Name)) 1 rfl 1 (.int .i64 y9.f_Version)) 1 rfl 2 (.slice y9.f_Stores_a y9.f_Stores.length y9.f_Stores_c)) 1 rfl 3 (.slice y9.f_Unique_a y9.f_Unique.length y9.f_Unique_c))
    clear S6
    obtain ⟨f0, f1, f2, f3⟩ := Bag.cs4 S7.out 1 rfl
    refine bodyPost_ret (v := .tuple #[.agg #[.string y9.f_Name, .int .i64 y9.f_Version, .slice y9.f_Stores_a y9.f_Stores.length y9.f_Stores_c, .slice y9.f_Unique_a y9.f_Unique.length y9.f_Unique_c], .bool false]) (by simp [results, Tryz.results16, go_sem, *]) rfl ?_
    clear f0 f1 f2 f3
    obtain ⟨e1, e2⟩ := (to_no HALL.out (by rw [decide_eq_false (by rw [HDV.out]; omega)]; rfl) : toD D v us = D ∧ toB D v us = false)
    rw [e1, e2]
    exact ⟨y9, rfl, HCY9.out, Bag.bag_from S7.out 4 rfl, S7.out.old⟩
   ·
    skip
    cases B with
    | false =>
     go_wp2_with fail
     go_at_call 34
     refine (HVD.out _ S5.out.old).mono ?_
     rintro e w3 ⟨rfl, hb⟩
     clear f0 f1 f2 f3 f4 f5 f6 f7
     have S6 := Lib.hid (S5.out.keep hb)
     clear S5
     clear hb
     obtain ⟨f0, f1, f2, f3⟩ := Bag.cs4 S6.out 0 rfl
     obtain ⟨f4, f5, f6, f7⟩ := Bag.cs4 S6.out 3 rfl
     go_wp2_with fail
     go_at_call 30
     refine (HCP.out _ S6.out.old).mono ?_
     rintro e w4 ⟨y9, rfl, hcy, ho, hb⟩
     clear f0 f1 f2 f3 f4 f5 f6 f7
     have S7 := Lib.hid (show Sl.Sep w _ [_, _, _, _, _] from Bag.push_bag S6.out hb ho)
     clear S6
     clear hb ho
     have HCY9 := Lib.hid hcy
     clear hcy
     unfold vv_Database
     obtain ⟨f0, f1, f2, f3⟩ := Bag.cs4 S7.out 1 rfl
     obtain ⟨z0, z1, z2, z3⟩ := Bag.fs4 S7.out 1 rfl
     go_wp2_with fail
     clear f0 f1 f2 f3 z0 z1 z2 z3
     have S8 := Lib.hid (show Sl.Sep w _ [_, L4.boxR (w.heap.size + 1) 33 #[.string y9.f_Name, .int .i64 y9.f_Version, .slice y9.f_Stores_a y9.f_Stores.length y9.f_Stores_c, .slice y9.f_Unique_a y9.f_Unique.length y9.f_Unique_c], _, _, _] from L5.put_box5 (L5.put_box5 (L5.put_box5 (L5.put_box5 (S7.out) 1 rfl 0 (.string y9.f_Name)) 1 rfl 1 (.int .i64 y9.f_Version)) 1 rfl 2 (.slice y9.f_Stores_a y9.f_Stores.length y9.f_Stores_c)) 1 rfl 3 (.slice y9.f_Unique_a y9.f_Unique.length y9.f_Unique_c))
     clear S7
     obtain ⟨f0, f1, f2, f3⟩ := Bag.cs4 S8.out 1 rfl
     refine bodyPost_ret (v := .tuple #[.agg #[.string y9.f_Name, .int .i64 y9.f_Version, .slice y9.f_Stores_a y9.f_Stores.length y9.f_Stores_c, .slice y9.f_Unique_a y9.f_Unique.length y9.f_Unique_c], .bool false]) (by simp [results, Tryz.results16, go_sem, *]) rfl ?_
     clear f0 f1 f2 f3
     obtain ⟨e1, e2⟩ := (to_no HALL.out (by rw [HB.out]; simp) : toD D v us = D ∧ toB D v us = false)
     rw [e1, e2]
     exact ⟨y9, rfl, HCY9.out, Bag.bag_from S8.out 4 rfl, S8.out.old⟩
    | true =>
     go_wp2_with fail
     go_at_call 34
     refine (HVD.out _ S5.out.old).mono ?_
     rintro e w3 ⟨rfl, hb⟩
     clear f0 f1 f2 f3 f4 f5 f6 f7
     have S6 := Lib.hid (S5.out.keep hb)
     clear S5
     clear hb
     obtain ⟨f0, f1, f2, f3⟩ := Bag.cs4 S6.out 0 rfl
     obtain ⟨f4, f5, f6, f7⟩ := Bag.cs4 S6.out 3 rfl
     go_wp2_with fail
     go_at_call 34
     refine (HIY.out _ (Bag.bag_rd S6.out 2 rfl)).mono ?_
     rintro e w4 ⟨rfl, hb⟩
     clear f0 f1 f2 f3 f4 f5 f6 f7
     have S7 := Lib.hid (S6.out.keep hb)
     clear S6
     clear hb
     obtain ⟨f0, f1, f2, f3⟩ := Bag.cs4 S7.out 0 rfl
     obtain ⟨f4, f5, f6, f7⟩ := Bag.cs4 S7.out 3 rfl
     cases B2 with
     | false =>
      go_wp2_with fail
      go_at_call 30
      refine (HCP.out _ S7.out.old).mono ?_
      rintro e w5 ⟨y9, rfl, hcy, ho, hb⟩
      clear f0 f1 f2 f3 f4 f5 f6 f7
      have S8 := Lib.hid (show Sl.Sep w _ [_, _, _, _, _] from Bag.push_bag S7.out hb ho)
      clear S7
      clear hb ho
      have HCY9 := Lib.hid hcy
      clear hcy
      unfold vv_Database
      obtain ⟨f0, f1, f2, f3⟩ := Bag.cs4 S8.out 1 rfl
      obtain ⟨z0, z1, z2, z3⟩ := Bag.fs4 S8.out 1 rfl
      go_wp2_with fail
      clear f0 f1 f2 f3 z0 z1 z2 z3
      have S9 := Lib.hid (show Sl.Sep w _ [_, L4.boxR (w.heap.size + 1) 33 #[.string y9.f_Name, .int .i64 y9.f_Version, .slice y9.f_Stores_a y9.f_Stores.length y9.f_Stores_c, .slice y9.f_Unique_a y9.f_Unique.length y9.f_Unique_c], _, _, _] from L5.put_box5 (L5.put_box5 (L5.put_box5 (L5.put_box5 (S8.out) 1 rfl 0 (.string y9.f_Name)) 1 rfl 1 (.int .i64 y9.f_Version)) 1 rfl 2 (.slice y9.f_Stores_a y9.f_Stores.length y9.f_Stores_c)) 1 rfl 3 (.slice y9.f_Unique_a y9.f_Unique.length y9.f_Unique_c))
      clear S8
      obtain ⟨f0, f1, f2, f3⟩ := Bag.cs4 S9.out 1 rfl
      refine bodyPost_ret (v := .tuple #[.agg #[.string y9.f_Name, .int .i64 y9.f_Version, .slice y9.f_Stores_a y9.f_Stores.length y9.f_Stores_c, .slice y9.f_Unique_a y9.f_Unique.length y9.f_Unique_c], .bool false]) (by simp [results, Tryz.results16, go_sem, *]) rfl ?_
      clear f0 f1 f2 f3
      obtain ⟨e1, e2⟩ := (to_no HALL.out (by rw [HB2.out]; simp) : toD D v us = D ∧ toB D v us = false)
      rw [e1, e2]
      exact ⟨y9, rfl, HCY9.out, Bag.bag_from S9.out 4 rfl, S9.out.old⟩
     | true =>
      clear f0 f1 f2 f3 f4 f5 f6 f7
      obtain ⟨f0, f1, f2, f3⟩ := Bag.cs4 S7.out 1 rfl
      obtain ⟨f4, f5, f6, f7⟩ := Bag.cs4 S7.out 3 rfl
      obtain ⟨z0, z1, z2, z3⟩ := Bag.fs4 S7.out 1 rfl
      go_wp2_with fail
      clear f0 f1 f2 f3 f4 f5 f6 f7 z0 z1 z2 z3
      have S8 := Lib.hid (show Sl.Sep w _ [_, L4.boxR (w.heap.size + 1) 33 #[.string y.f_Name, .int .i64 v, .slice y.f_Stores_a y.f_Stores.length y.f_Stores_c, .slice y.f_Unique_a y.f_Unique.length y.f_Unique_c], _, _] from L5.put_box5 (L5.put_box5 (L5.put_box5 (L5.put_box5 (S7.out) 1 rfl 0 (.string y.f_Name)) 1 rfl 1 (.int .i64 v)) 1 rfl 2 (.slice y.f_Stores_a y.f_Stores.length y.f_Stores_c)) 1 rfl 3 (.slice y.f_Unique_a y.f_Unique.length y.f_Unique_c))
      clear S7
      obtain ⟨f0, f1, f2, f3⟩ := Bag.cs4 S8.out 1 rfl
      refine bodyPost_ret (v := .tuple #[.agg #[.string y.f_Name, .int .i64 v, .slice y.f_Stores_a y.f_Stores.length y.f_Stores_c, .slice y.f_Unique_a y.f_Unique.length y.f_Unique_c], .bool true]) (by simp [results, Tryz.results16, go_sem, *]) rfl ?_
      clear f0 f1 f2 f3
      obtain ⟨e1, e2⟩ := to_yes HALL.out (by rw [decide_eq_true (by rw [HDV.out]; omega), HB.out, HB2.out]; rfl)
      rw [e1, e2]
      exact ⟨(⟨y.f_Name, v, y.f_Stores_a, y.f_Stores_c, y.f_Stores, y.f_Unique_a, y.f_Unique_c, y.f_Unique⟩ : Y_Database), rfl, rfl, Bag.bag_from S8.out 2 rfl, S8.out.old⟩
end Go.Proofs.YthljdhfgphebnaaGreat.L8

namespace Go.Proofs.YthljdhfgphebnaaGreat.L5
open L4 (boxR push_box box_at)
open Go.ChangeShapes Go.WideShapes Go.ChangeAt Go.RowKit Mem Sl Ex L2 Sv Bag Run

set_option maxHeartbeats 1000000 in
theorem copyRecord_any (a : Option Addr) (c : Nat) (l : List F) (hl : l.length ≤ 1099511627776) (w : World) (hr : Reads w w.heap.size a (cellsF l)) :
  Calls Tryz.prog 141 #[.agg #[.slice a l.length c]] w fun e w' => ∃ a' c', e = .returned (.agg #[.slice a' l.length c']) ∧ OwnV w' w.heap.size 184 2 a' c' l.length (cellsF l) ∧ Below w.heap.size w w' := by
 obtain ⟨i0, hi, hz0, hz1, hz2⟩ := fieldInfo
 obtain ⟨n, hn⟩ : ∃ n, n = l.length := ⟨_, rfl⟩
 rw [← hn] at hl ⊢
 have HR := Lib.hid (fun w' (h : Below w.heap.size w w') => hr.below h)
 have HC := Lib.hid (show (cellsF l).length = Nat.min n n * 2 by rw [cellsF_length, hn, show Nat.min l.length l.length = l.length from Nat.min_self _])
 have HM := Lib.hid (show (madeCells (Value.agg #[.string ⟨#[]⟩, .int .i64 0]).cells (n * 2)).toList.length = (cellsF l).length by rw [cellsF_length, ← hn]; simp [madeCells])
 have HI := Lib.hid (And.intro hi (And.intro hz0 (And.intro hz1 hz2)))
 have hl' : (n : Int) ≤ 1099511627776 := by omega
 clear hn hr hi hz0 hz1 hz2
 have S1 := Lib.hid (show Sl.Sep w _ [_, _] from L4.push_box (L4.push_box (Sl.Sep.start w) 131 #[.slice a n c] (w.heap.size) (by simp)) 131 #[.slice none 0 0] (w.heap.size + 1) (by simp))
 obtain ⟨wa, hwa⟩ : ∃ u, u = ((w.alloc (.cells #[.slice a n c] 131)).alloc (.cells #[.slice none 0 0] 131)) := ⟨_, rfl⟩
 rw [← hwa] at S1
 go_enter Tryz.func141, Tryz.ntmps141
 go_upto_region 1 with fail
 rw [← hwa]
 clear hwa
 have f0 : World.cell? _ ⟨w.heap.size, 0, none⟩ = some (.slice a n c) := Bag.cell_at S1.out 0 rfl 0 rfl
 have f1 : World.cell? _ ⟨w.heap.size + 1, 0, none⟩ = some (.slice none 0 0) := Bag.cell_at S1.out 1 rfl 0 rfl
 go_upto_region 2 with (at_make; refine wpList_make_s S1.out rfl _ _ 129 rfl 184 i0 (.agg #[.string ⟨#[]⟩, .int .i64 0]) 2 Tryz.underlying129 HI.out.1 HI.out.2.1 HI.out.2.2.1 _ _ n rfl rfl (by rw [HI.out.2.2.2]; omega) (by unfold maxLen; omega) ?_; intro w1 S')
 clear f0 f1
 obtain ⟨g1, hg⟩ : ∃ g', g' = wa.heap.size := ⟨_, rfl⟩
 rw [← hg] at S' ⊢
 clear hg
 have S2 := Lib.hid (show Sl.Sep w _ [L4.boxR w.heap.size 131 #[.slice a n c], L4.boxR (w.heap.size + 1) 131 #[.slice none 0 0], Sv.ownV 184 2 (some ⟨g1, 0, none⟩) n n ((madeCells (Value.agg #[.string ⟨#[]⟩, .int .i64 0]).cells (n * 2)).toList)] from S')
 clear S1
 clear S'
 have f0 : World.cell? _ ⟨w.heap.size, 0, none⟩ = some (.slice a n c) := Bag.cell_at S2.out 0 rfl 0 rfl
 have f1 : World.cell? _ ⟨w.heap.size + 1, 0, none⟩ = some (.slice none 0 0) := Bag.cell_at S2.out 1 rfl 0 rfl
 have hcp := fun ty => run_copy_s (P := Tryz.prog) S2.out 2 rfl 129 129 ty i0 Tryz.underlying129 HI.out.1 HI.out.2.2.1 0 n n n c a (cellsF l) HC.out w.heap.size (HR.out _ S2.out.old) (by rw [HM.out]; omega) (cellsF_one l)
 obtain ⟨w2, hw⟩ : ∃ u, u = World.setCells w1 g1 0 (cellsF l) := ⟨_, rfl⟩
 rw [← hw] at hcp
 have HW := Lib.hid hw
 clear hw
 go_upto_region 3 with fail
 clear f0 f1
 have S3 := Lib.hid (show Sl.Sep w _ [_, _, Sv.ownV 184 2 (some ⟨g1, 0, none⟩) n n (cellsF l)] from (by have h := Run.put_run S2.out 2 rfl 0 (cellsF l) (by rw [HM.out]; omega); rw [← HW.out, over_all _ _ HM.out] at h; exact h))
 clear S2
 clear hcp HW
 have f0 : World.cell? _ ⟨w.heap.size, 0, none⟩ = some (.slice a n c) := Bag.cell_at S3.out 0 rfl 0 rfl
 have f1 : World.cell? _ ⟨w.heap.size + 1, 0, none⟩ = some (.slice none 0 0) := Bag.cell_at S3.out 1 rfl 0 rfl
 have z0 := Bag.free_at S3.out 1 rfl 0
 go_wp2_with fail
 clear f0 f1 z0
 have S4 := Lib.hid (show Sl.Sep w _ [_, L4.boxR (w.heap.size + 1) 131 #[.slice (some ⟨g1, 0, none⟩) n n], _] from L5.put_box5 (S3.out) 1 rfl 0 (.slice (some ⟨g1, 0, none⟩) n n))
 clear S3
 have f0 : World.cell? _ ⟨w.heap.size + 1, 0, none⟩ = some (.slice (some ⟨g1, 0, none⟩) n n) := Bag.cell_at S4.out 1 rfl 0 rfl
 refine bodyPost_ret (v := .agg #[.slice (some ⟨g1, 0, none⟩) n n]) (by simp [results, Tryz.results141, go_sem, *]) rfl ?_
 exact ⟨_, _, rfl, Sv.own_from S4.out 2 rfl, S4.out.old⟩
end Go.Proofs.YthljdhfgphebnaaGreat.L5

namespace Go.Proofs.YthljdhfgphebnaaGreat.V
open Go.ChangeShapes Go.WideShapes Go.ChangeAt Go.RowKit Mem Sl Sv Bag

theorem infoE_Item : ∃ i, Tryz.prog.info? 135 = some i ∧ i.zero = some (.agg #[.int .i64 0, .int .i64 0, .string ⟨#[]⟩, .slice none 0 0]) ∧ i.size = 4 ∧ i.bytes = 56 := Ex.infoOf _ _ _ _ (by kernel_rfl)
def Copied_Item (w : World) (x : L6.LI) (e : Ending) (w' : World) : Prop := ∃ y : L6.LI, e = .returned (vv_Item y) ∧ co_Item y = co_Item x ∧ BagOwn w' w.heap.size (rw_Item y) ∧ Below w.heap.size w w'
def CopiedS_Item (w : World) (xs : List L6.LI) (e : Ending) (w' : World) : Prop := ∃ (g : Nat) (ys : List L6.LI), e = .returned (.slice (some ⟨g, 0, none⟩) ys.length ys.length) ∧ coS_Item ys = coS_Item xs ∧ BagOwn w' w.heap.size (rs_Item (some ⟨g, 0, none⟩) ys.length ys) ∧ Below w.heap.size w w'
set_option maxHeartbeats 4000000 in
theorem copyEach_Item (hco : ∀ (x : L6.LI) (hf : L6.FitI (co_Item x)) (w : World) (hr : RowsRd w w.heap.size (rw_Item x)), Calls Tryz.prog 105 #[vv_Item x] w (Copied_Item w x))
  (a : Option Addr) (c : Nat) (xs : List L6.LI) (hl : xs.length ≤ 1048576) (hf : ∀ x ∈ xs, L6.FitI (co_Item x)) (w : World) (hr : Reads w w.heap.size a (xs.flatMap cl_Item)) (hx : RowsRd w w.heap.size (rws_Item xs)) :
  Calls Tryz.prog 104 #[.slice a xs.length c, .func (.func 105) #[] #[]] w (CopiedS_Item w xs) := by
 obtain ⟨i0, hi1, hi2, hi3, hi4⟩ := infoE_Item
 have HI := Lib.hid (And.intro hi1 (And.intro hi2 (And.intro hi3 hi4)))
 clear hi1 hi2 hi3 hi4
 have HR := Lib.hid (fun w' (h : Below w.heap.size w w') => hr.below h)
 have HX := Lib.hid (fun w' (h : Below w.heap.size w w') => (hx.below h).more h.size)
 have HF := Lib.hid hf
 have HCO := Lib.hid hco
 obtain ⟨N, hN⟩ : ∃ n, n = xs.length := ⟨_, rfl⟩
 rw [← hN] at hl ⊢
 have hl' : (N : Int) ≤ 1048576 := by omega
 have HN := Lib.hid hN
 clear hN hr hx hf hco
 obtain ⟨Z, hZ⟩ : ∃ Z, Z = (madeCells (Value.agg #[.int .i64 0, .int .i64 0, .string ⟨#[]⟩, .slice none 0 0]).cells (N * 4)).toList := ⟨_, rfl⟩
 have HZ := Lib.hid (show Z.length = N * 4 by rw [hZ]; simp [madeCells])
 have HZD := Lib.hid hZ
 clear hZ
 have S1 := Lib.hid (show Sl.Sep w w [] from Sl.Sep.start w)
 go_enter Tryz.func104, Tryz.ntmps104
 go_upto_region 2 with (at_make; refine Run.wpList_make_s S1.out rfl _ _ 68 rfl 135 i0 (.agg #[.int .i64 0, .int .i64 0, .string ⟨#[]⟩, .slice none 0 0]) 4 Tryz.underlying68 HI.out.1 HI.out.2.1 HI.out.2.2.1 _ _ N rfl rfl (by rw [HI.out.2.2.2]; omega) (by unfold maxLen; omega) ?_; intro w1 S')
 obtain ⟨g1, hg⟩ : ∃ g', g' = w.heap.size := ⟨_, rfl⟩
 rw [← hg] at S' ⊢
 clear hg
 have S2 := Lib.hid (show Sl.Sep w _ [Sv.ownV 135 4 (some ⟨g1, 0, none⟩) N N (([] : List L6.LI).flatMap cl_Item ++ Z)] from (by have h := S'; rw [← HZD.out] at h; exact h))
 clear S1
 clear S'
 have S3 := Lib.hid (show Sl.Sep w _ [_, Bag.bag (rws_Item [])] from Bag.push_bag S2.out (Below.refl _ _) (by rw [rws_Item_eq]; exact Bag.BagOwn.nil _ _))
 clear S2
 go_wp2_with fail
 go_loopw [13] (fun i wr => ∃ (k : Nat) (ys : List L6.LI) (Zs : List Value), k ≤ N ∧ i = .int .i64 k ∧ Hid ((ys.map co_Item = (xs.take k).map co_Item ∧ ys.length = k ∧ Zs.length = (N - k) * 4) ∧ Sl.Sep w wr [Sv.ownV 135 4 (some ⟨g1, 0, none⟩) N N (ys.flatMap cl_Item ++ Zs), Bag.bag (rws_Item ys)])) (fun i _ => N - (intOf i).toNat)
 case atStart => exact ⟨0, [], Z, Nat.zero_le _, rfl, And.intro ⟨rfl, rfl, HZ.out⟩ S3.out⟩
 case round =>
  obtain ⟨k, ys, Zs, hk, rfl, hrel⟩ := hrel
  have HC := Lib.hid hrel.out.1
  have S4 := Lib.hid hrel.out.2
  clear hrel S3
  by_cases hlt : (k : Int) < (N : Int)
  ·
   skip
   have hkl : k < xs.length := by have := HN.out; omega
   obtain ⟨x, hx⟩ : ∃ x, xs[k]? = some x := ⟨_, List.getElem?_eq_getElem hkl⟩
   obtain ⟨ad, e'⟩ := el_some cl_Item_len (by decide) (HR.out _ S4.out.old) hkl
   subst e'
   have HK := Lib.hid (fun w' (h : Below w.heap.size w w') => el4 cl_Item_len (HR.out _ h) hx rfl)
   have HTX := Lib.hid (take_next hx)
   have HL := Lib.hid (show (ys.flatMap cl_Item).length = k * 4 ∧ k * 4 + 4 ≤ (ys.flatMap cl_Item ++ Zs).length ∧ 4 ≤ Zs.length from by have h1 := HC.out.2.1; have h2 := HC.out.2.2; rw [List.length_append, flat_len cl_Item_len, h1, h2]; omega)
   have HCI := Lib.hid (fun w' (h : Below w.heap.size w w') => HCO.out x (HF.out x (List.mem_of_getElem? hx)) w' (rd_el (rw_ := rw_Item) (by rw [← rws_Item_eq]; exact HX.out w' h) hx))
   dsimp only [vv_Item] at HCI
   clear hx
   obtain ⟨f0, f1, f2, f3⟩ := HK.out _ S4.out.old
   go_upto_region 5 with fail
   clear f0 f1 f2 f3
   have S5 := Lib.hid (show Sl.Sep w _ [_, _, _] from L4.push_box S4.out 135 #[.int .i64 x.k.kind, .int .i64 x.k.n, .string x.k.text, .slice x.a x.l.length x.c] wr.heap.size rfl)
   clear S4
   obtain ⟨g2, hg⟩ : ∃ g', g' = wr.heap.size := ⟨_, rfl⟩
   rw [← hg] at S5 ⊢
   clear hg
   generalize wr.alloc (.cells #[.int .i64 x.k.kind, .int .i64 x.k.n, .string x.k.text, .slice x.a x.l.length x.c] 135) = w2 at S5 ⊢
   obtain ⟨f0, f1, f2, f3⟩ := Bag.cs4 S5.out 2 rfl
   obtain ⟨f4, f5, f6, f7⟩ := HK.out _ S5.out.old
   go_wp2_with fail
   go_at_call 105
   refine (HCI.out _ S5.out.old).mono ?_
   rintro e w3 ⟨y, rfl, hcy, ho, hb⟩
   clear f0 f1 f2 f3 f4 f5 f6 f7
   have S6 := Lib.hid (show Sl.Sep w _ [_, _, L4.boxR g2 135 #[.int .i64 x.k.kind, .int .i64 x.k.n, .string x.k.text, .slice x.a x.l.length x.c], Bag.bag (rw_Item y)] from Bag.push_bag S5.out hb ho)
   clear S5
   clear hb ho
   have HCY := Lib.hid hcy
   clear hcy
   try dsimp only [vv_Item]
   have q0 := (Sv.own_at S6.out 0 rfl).cell (k * 4) (by have := HL.out.2.1; omega)
   have z0 := (Sv.own_at S6.out 0 rfl).free (k * 4)
   have q1 := (Sv.own_at S6.out 0 rfl).cell (k * 4 + 1) (by have := HL.out.2.1; omega)
   have z1 := (Sv.own_at S6.out 0 rfl).free (k * 4 + 1)
   have q2 := (Sv.own_at S6.out 0 rfl).cell (k * 4 + 2) (by have := HL.out.2.1; omega)
   have z2 := (Sv.own_at S6.out 0 rfl).free (k * 4 + 2)
   have q3 := (Sv.own_at S6.out 0 rfl).cell (k * 4 + 3) (by have := HL.out.2.1; omega)
   have z3 := (Sv.own_at S6.out 0 rfl).free (k * 4 + 3)
   go_wp2_with fail
   clear q0 z0 q1 z1 q2 z2 q3 z3
   have S7 := Lib.hid (show Sl.Sep w (World.setCells w3 g1 (k * 4) [.int .i64 y.k.kind, .int .i64 y.k.n, .string y.k.text, .slice y.a y.l.length y.c]) [Sv.ownV 135 4 (some ⟨g1, 0, none⟩) N N ((ys ++ [y]).flatMap cl_Item ++ Zs.drop 4), Bag.bag (rws_Item ys), L4.boxR g2 135 #[.int .i64 x.k.kind, .int .i64 x.k.n, .string x.k.text, .slice x.a x.l.length x.c], Bag.bag (rw_Item y)] from (by have h := Run.put_run S6.out 0 rfl (k * 4) [.int .i64 y.k.kind, .int .i64 y.k.n, .string y.k.text, .slice y.a y.l.length y.c] (by have := HL.out.2.1; simpa using this); rw [Run.over_at _ _ _ _ HL.out.1 (by have := HL.out.2.2; simpa using this)] at h; rw [List.flatMap_append, List.append_assoc]; exact h))
   clear S6
   have S8 := Lib.hid (show Sl.Sep w _ [Sv.ownV 135 4 (some ⟨g1, 0, none⟩) N N ((ys ++ [y]).flatMap cl_Item ++ Zs.drop 4), Bag.bag (rws_Item ys ++ (rw_Item y)), L4.boxR g2 135 #[.int .i64 x.k.kind, .int .i64 x.k.n, .string x.k.text, .slice x.a x.l.length x.c], Bag.bag ([])] from Bag.bag_join S7.out 1 3 (by decide) rfl rfl)
   clear S7
   have S9 := Lib.hid (show Sl.Sep w _ [_, _] from Bag.take S8.out [0, 1] (by rfl) (by decide))
   clear S8
   go_roundw
   case rel =>
    refine ⟨k + 1, ys ++ [y], Zs.drop 4, by omega, by go_num, And.intro ⟨?_, ?_, ?_⟩ ?_⟩
    ·
     rw [HTX.out, List.map_append, List.map_append, HC.out.1]; rw [show [y].map co_Item = [x].map co_Item from congrArg (fun u => [u]) HCY.out]
    ·
     rw [List.length_append, HC.out.2.1]; rfl
    ·
     rw [List.length_drop, HC.out.2.2]; omega
    ·
     rw [rws_Item_app]; rw [show rws_Item [y] = rw_Item y from by rw [rws_Item_eq]; simp]; exact S9.out
   case measure => simp [intOf]; omega
  ·
   skip
   obtain rfl : k = N := by omega
   go_wp2_with fail
   go_ret
   obtain ⟨hc1, hc2, hc3⟩ := HC.out
   have hZs : Zs = [] := List.eq_nil_of_length_eq_zero (by rw [hc3]; omega)
   have hcon : ys.map co_Item = xs.map co_Item := by rw [hc1, List.take_of_length_le (by have := HN.out; omega)]
   have S90 := Lib.hid (Bag.bag_of_one S4.out 0 (r := row_Item (some ⟨g1, 0, none⟩) k ys) (by unfold RowS.res row_Item; dsimp only; rw [hZs, List.append_nil, hc2]; rfl))
   have S91 := Lib.hid (Bag.bag_join S90.out 0 1 (by decide) rfl rfl)
   have hb := Bag.bag_from S91.out 0 rfl
   subst hc2
   exact ⟨_, ys, rfl, by rw [coS_Item_eq, coS_Item_eq]; exact hcon, hb, S91.out.old⟩
end Go.Proofs.YthljdhfgphebnaaGreat.V

set_option linter.unusedSimpArgs false
namespace Go.Proofs.YthljdhfgphebnaaGreat.L6
open L4 (K isK cmpK R inR encU)
open L5 (F isR isN cellsF encR eqR Small)
open Go.ChangeShapes Go.WideShapes Go.ChangeAt Go.RowKit Mem Sl Ex L2 Sv Bag

set_option maxHeartbeats 2000000 in
theorem copyItem_any (kd n : Int) (s : ByteArray) (a : Option Addr) (c : Nat) (l : List F) (hl : l.length ≤ 1048576) (w : World) (hr : Reads w w.heap.size a (cellsF l)) :
  Calls Tryz.prog 105 #[.agg #[.int .i64 kd, .int .i64 n, .string s, .slice a l.length c]] w (GaveI w ⟨⟨kd, n, s⟩, l⟩) := by
 have HC := Lib.hid (fun w' (h : Below w.heap.size w w') => L5.copyRecord_any a c l (by have := hl; omega) w' ((hr.below h).more h.size))
 obtain ⟨N, hN⟩ : ∃ n, n = l.length := ⟨_, rfl⟩
 rw [← hN] at HC ⊢
 have HN := Lib.hid hN
 clear hN hr hl
 have S1 := Lib.hid (show Sl.Sep w _ [_, _] from L4.push_box (L4.push_box (Sl.Sep.start w) 135 #[.int .i64 kd, .int .i64 n, .string s, .slice a N c] (w.heap.size) (by simp)) 135 #[.int .i64 0, .int .i64 0, .string ⟨#[]⟩, .slice none 0 0] (w.heap.size + 1) (by simp))
 obtain ⟨wa, hwa⟩ : ∃ w_, w_ = ((w.alloc (.cells #[.int .i64 kd, .int .i64 n, .string s, .slice a N c] 135)).alloc (.cells #[.int .i64 0, .int .i64 0, .string ⟨#[]⟩, .slice none 0 0] 135)) := ⟨_, rfl⟩
 rw [← hwa] at S1
 go_enter Tryz.func105, Tryz.ntmps105
 go_upto_region 1 with fail
 rw [← hwa]
 clear hwa
 go_upto_region 1 with fail
 refine wp_region_held_drew (S := (fun w' => (w'.cell? ⟨w.heap.size, 0, none⟩ = some (.int .i64 kd) ∧ w'.cell? ⟨w.heap.size, 1, none⟩ = some (.int .i64 n) ∧ w'.cell? ⟨w.heap.size, 2, none⟩ = some (.string s) ∧ w'.cell? ⟨w.heap.size, 3, none⟩ = some (.slice a N c)))) (by kernel_rfl) (Bag.cs4 (Bag.drew1 S1.out) 0 rfl) (fun hS => ?_)
 have S2 := Lib.hid (Bag.drew1 S1.out)
 clear S1
 generalize World.drew _ = w1 at hS S2 ⊢
 refine tk 0 rfl ?_
 try simp only [zp0, zp1, zp2, zp3, zp4]
 refine tk 1 rfl ?_
 try simp only [zp0, zp1, zp2, zp3, zp4]
 refine tk 2 rfl ?_
 try simp only [zp0, zp1, zp2, zp3, zp4]
 refine tk 3 rfl ?_
 try simp only [zp0, zp1, zp2, zp3, zp4]
 refine Reg.one_op (i := 4) rfl (by kernel_rfl) (fun K hK => ?_)
 go_simp
 go_at_call 141
 refine (HC.out _ S2.out.old).mono ?_
 rintro e w2 ⟨a1, c1, rfl, ho, hb⟩
 have S3 := Lib.hid (show Sl.Sep w _ [_, _, Sv.ownV 184 2 a1 c1 N (cellsF l)] from Sv.push_own S2.out hb ho)
 clear S2
 clear hb ho
 go_wp2_with fail
 refine hK.out _ _ (Bag.cs4 S3.out 0 rfl) (fun hS => ?_)
 clear hK K
 try simp only [zp0, zp1, zp2, zp3, zp4]
 refine tk 5 rfl ?_
 try simp only [zp0, zp1, zp2, zp3, zp4]
 refine Reg.one_op (i := 6) rfl (by kernel_rfl) (fun K hK => ?_)
 obtain ⟨f0, f1, f2, f3⟩ := Bag.cs4 S3.out 1 rfl
 obtain ⟨z0, z1, z2, z3⟩ := Bag.fs4 S3.out 1 rfl
 go_simp
 clear f0 f1 f2 f3 z0 z1 z2 z3
 have S4 := Lib.hid (show Sl.Sep w _ [_, L4.boxR (w.heap.size + 1) 135 #[.int .i64 kd, .int .i64 n, .string s, .slice a1 N c1], _] from L5.put_box5 (L5.put_box5 (L5.put_box5 (L5.put_box5 (S3.out) 1 rfl 0 (.int .i64 kd)) 1 rfl 1 (.int .i64 n)) 1 rfl 2 (.string s)) 1 rfl 3 (.slice a1 N c1))
 clear S3
 refine hK.out _ _ (Bag.cs4 S4.out 0 rfl) (fun hS => ?_)
 clear hK K
 try simp only [zp0, zp1, zp2, zp3, zp4]
 refine wpAnyH_done (by kernel_rfl) ?_ _
 obtain ⟨f0, f1, f2, f3⟩ := Bag.cs4 S4.out 0 rfl
 obtain ⟨f4, f5, f6, f7⟩ := Bag.cs4 S4.out 1 rfl
 go_wp2_with fail
 refine bodyPost_ret (v := .agg #[.int .i64 kd, .int .i64 n, .string s, .slice a1 N c1]) (by simp [results, Tryz.results105, go_sem, *]) rfl ?_
 have hb := Bag.bag_from (Bag.bag_of_one S4.out 2 (r := (LI.mk ⟨kd, n, s⟩ a1 c1 l).row) (by show some _ = some _; rw [HN.out]; rfl)) 2 rfl
 exact ⟨a1, c1, by rw [HN.out], hb, S4.out.old⟩
theorem copyItem_V (x : LI) (hf : FitI (V.co_Item x)) (w : World) (hr : RowsRd w w.heap.size (V.rw_Item x)) : Calls Tryz.prog 105 #[V.vv_Item x] w (V.Copied_Item w x) :=
 (copyItem_any x.k.kind x.k.n x.k.text x.a x.c x.l hf.len w (V.rd_head hr).reads).mono fun e w' ⟨a, c, he, ho, hb⟩ => ⟨⟨x.k, a, c, x.l⟩, he, rfl, ho, hb⟩
def GaveSF (w : World) (s : S6) (e : Ending) (w' : World) : Prop :=
 ∃ (g : Nat) (ys : List LI), e = .returned (.agg #[.string s.name, .slice (some ⟨g, 0, none⟩) ys.length ys.length, .int .i64 s.auto]) ∧ conI ys = s.items ∧ BagOwn w' w.heap.size (rowI (some ⟨g, 0, none⟩) ys.length ys :: rowsI ys) ∧ Below w.heap.size w w'

set_option maxHeartbeats 4000000 in
theorem copyStore_full (y : LS) (hf : FitS y.con) (w : World) (hr : RowsRd w w.heap.size y.rows) :
  Calls Tryz.prog 72 #[y.v] w (GaveSF w y.con) := by
 have HCE := Lib.hid (fun w' (h : Below w.heap.size w w') => V.copyEach_Item copyItem_V y.a y.c y.xs (by have h := hf.len; simpa [LS.con] using h) (fun x hx => hf.items _ (by unfold LS.con conI; exact List.mem_map.2 ⟨x, hx, rfl⟩)) w' (show Reads _ _ _ (y.xs.flatMap V.cl_Item) from ((LS.outer (hr.below h)).more h.size)) (show RowsRd _ _ (V.rws_Item y.xs) from (LS.inner (hr.below h)).more h.size))
 obtain ⟨name, a, c, xs, auto⟩ := y
 have HR := Lib.hid (fun w' (h : Below w.heap.size w w') => LS.outer (hr.below h))
 have HX := Lib.hid (fun w' (h : Below w.heap.size w w') => (LS.inner (hr.below h)).more h.size)
 have HF := Lib.hid hf.items
 have HNM := Lib.hid hf.name
 have hl := hf.len
 simp only [LS.con, conI_length] at hl
 dsimp only [LS.con] at HR HX HF HNM
 first | unfold LS.v LS.cells LS.con | unfold LS.v LS.cells | skip
 try dsimp only
 obtain ⟨N, hN⟩ : ∃ n, n = xs.length := ⟨_, rfl⟩
 rw [← hN] at hl ⊢
 have hl' : (N : Int) ≤ 1048576 := by omega
 have HN := Lib.hid hN
 clear hN hr hf
 rw [← HN.out] at HCE
 replace HCE := Lib.hid HCE.out
 have S1 := Lib.hid (show Sl.Sep w _ [_, _] from L4.push_box (L4.push_box (Sl.Sep.start w) 70 #[.string name, .slice a N c, .int .i64 auto] (w.heap.size) (by simp)) 70 #[.string ⟨#[]⟩, .slice none 0 0, .int .i64 0] (w.heap.size + 1) (by simp))
 obtain ⟨wa, hwa⟩ : ∃ w_, w_ = ((w.alloc (.cells #[.string name, .slice a N c, .int .i64 auto] 70)).alloc (.cells #[.string ⟨#[]⟩, .slice none 0 0, .int .i64 0] 70)) := ⟨_, rfl⟩
 rw [← hwa] at S1
 go_enter Tryz.func72, Tryz.ntmps72
 go_upto_region 1 with fail
 rw [← hwa]
 clear hwa
 go_upto_region 1 with fail
 refine wp_region_held_drew (S := (fun w' => (w'.cell? ⟨w.heap.size, 0, none⟩ = some (.string name) ∧ w'.cell? ⟨w.heap.size, 1, none⟩ = some (.slice a N c) ∧ w'.cell? ⟨w.heap.size, 2, none⟩ = some (.int .i64 auto)))) (by kernel_rfl) (Bag.cs3 (Bag.drew1 S1.out) 0 rfl) (fun hS => ?_)
 have S2 := Lib.hid (Bag.drew1 S1.out)
 clear S1
 generalize World.drew _ = w1 at hS S2 ⊢
 refine tk 0 rfl ?_
 try simp only [zp0, zp1, zp2, zp3, zp4]
 refine tk 1 rfl ?_
 try simp only [zp0, zp1, zp2, zp3, zp4]
 refine tk 2 rfl ?_
 try simp only [zp0, zp1, zp2, zp3, zp4]
 refine tk 3 rfl ?_
 try simp only [zp0, zp1, zp2, zp3, zp4]
 refine tk 5 rfl ?_
 try simp only [zp0, zp1, zp2, zp3, zp4]
 refine tk 6 rfl ?_
 try simp only [zp0, zp1, zp2, zp3, zp4]
 refine Reg.one_op (i := 4) rfl (by kernel_rfl) (fun K hK => ?_)
 go_simp
 go_at_call 104
 refine (HCE.out _ S2.out.old).mono ?_
 rintro e w2 ⟨g1, ys, rfl, hcy, ho, hb⟩
 have S3 := Lib.hid (show Sl.Sep w _ [_, _, Bag.bag (V.rs_Item (some ⟨g1, 0, none⟩) ys.length ys)] from Bag.push_bag S2.out hb ho)
 clear S2
 clear hb ho
 have HCY := Lib.hid hcy
 clear hcy
 go_wp2_with fail
 refine hK.out _ _ (Bag.cs3 S3.out 0 rfl) (fun hS => ?_)
 clear hK K
 try simp only [zp0, zp1, zp2, zp3, zp4]
 refine tk 7 rfl ?_
 try simp only [zp0, zp1, zp2, zp3, zp4]
 refine Reg.one_op (i := 8) rfl (by kernel_rfl) (fun K hK => ?_)
 obtain ⟨f0, f1, f2⟩ := Bag.cs3 S3.out 1 rfl
 obtain ⟨z0, z1, z2⟩ := Bag.fs3 S3.out 1 rfl
 go_simp
 clear f0 f1 f2 z0 z1 z2
 have S4 := Lib.hid (show Sl.Sep w _ [_, L4.boxR (w.heap.size + 1) 70 #[.string name, .slice (some ⟨g1, 0, none⟩) ys.length ys.length, .int .i64 auto], _] from L5.put_box5 (L5.put_box5 (L5.put_box5 (S3.out) 1 rfl 0 (.string name)) 1 rfl 1 (.slice (some ⟨g1, 0, none⟩) ys.length ys.length)) 1 rfl 2 (.int .i64 auto))
 clear S3
 refine hK.out _ _ (Bag.cs3 S4.out 0 rfl) (fun hS => ?_)
 clear hK K
 try simp only [zp0, zp1, zp2, zp3, zp4]
 refine wpAnyH_done (by kernel_rfl) ?_ _
 obtain ⟨f0, f1, f2⟩ := Bag.cs3 S4.out 0 rfl
 obtain ⟨f3, f4, f5⟩ := Bag.cs3 S4.out 1 rfl
 go_wp2_with fail
 refine bodyPost_ret (v := .agg #[.string name, .slice (some ⟨g1, 0, none⟩) ys.length ys.length, .int .i64 auto]) (by simp [results, Tryz.results72, go_sem, *]) rfl ?_
 exact ⟨g1, ys, rfl, HCY.out, Bag.bag_from S4.out 2 rfl, S4.out.old⟩
theorem copyStore_any (y : LS) (hf : FitS y.con) (w : World) (hr : RowsRd w w.heap.size y.rows) : Calls Tryz.prog 72 #[y.v] w (GaveS w y.con) := by
 refine (copyStore_full y hf w hr).mono ?_
 rintro e w' ⟨g, ys, rfl, hc, hb, ho⟩
 exact ⟨⟨y.name, some ⟨g, 0, none⟩, ys.length, ys, y.auto⟩, rfl, by unfold LS.con; dsimp only; rw [hc]; rfl, hb, ho⟩
end Go.Proofs.YthljdhfgphebnaaGreat.L6

namespace Go.Proofs.YthljdhfgphebnaaGreat.L4
open Go.ChangeShapes Go.WideShapes Go.ChangeAt Go.RowKit Mem Sl Ex L2
def isLet (c : UInt8) : Bool := decide (97 ≤ c.toNat) && decide (c.toNat ≤ 122)
theorem isLetter_any (c : UInt8) (w : World) :
    Calls Tryz.prog 100 #[.int .u8 c.toNat] w fun e w' => e = .returned (.bool (isLet c)) ∧ w = w' := by
  by_cases h1 : (97 : Int) ≤ c.toNat <;> by_cases h2 : (c.toNat : Int) ≤ 122 <;>
    (go_enter Tryz.func100, Tryz.ntmps100
     go_wp2
     go_ret
     exact ⟨L1.ret_bool (by unfold isLet; have h1' := h1; have h2' := h2; simp only [Bool.false_eq, Bool.true_eq, Bool.and_eq_false_iff, Bool.and_eq_true, decide_eq_false_iff_not, decide_eq_true_eq]; omega), rfl⟩)
end Go.Proofs.YthljdhfgphebnaaGreat.L4

namespace Go.Proofs.YthljdhfgphebnaaGreat.L5
open Go.Op (bytesLess)
open Go.ChangeShapes Go.WideShapes Go.ChangeAt Go.RowKit Mem Sl Ex L2 Sv

theorem low_isLet (c : UInt8) : L4.isLet c = low c := rfl
theorem isName_any (s : ByteArray) (hs : s.size ≤ 281474976710656) (w : World) :
  Calls Tryz.prog 68 #[.string s] w fun e w' => e = .returned (.bool (isN s.data.toList)) ∧ w = w' := by
 have hsz : s.data.toList.length = s.size := by rw [Array.length_toList]; rfl
 have HZ := Lib.hid hsz
 clear hsz
 have HI := Lib.hid (fun w => L1.inRange_any (s.size : Int) 1 8 w)
 have HS := Lib.hid (show L1.inB (s.size : Int) 1 8 = false → isN s.data.toList = false from fun h => by
  unfold isN
  rw [Bool.and_eq_false_iff]
  right
  rw [HZ.out, ← h]
  unfold L1.inB
  congr 1 <;> (rw [decide_eq_decide]; omega))
 obtain ⟨bi, hbi⟩ : ∃ b, L1.inB (s.size : Int) 1 8 = b := ⟨_, rfl⟩
 rw [hbi] at HI HS
 have HB0 := Lib.hid hbi
 clear hbi
 cases bi with
 | false =>
  replace HS := Lib.hid (HS.out rfl)
  go_enter Tryz.func68, Tryz.ntmps68
  go_wp2_with (go_at_call 46; refine (HI.out _).mono ?_; rintro e w1 ⟨rfl, rfl⟩)
  go_ret
  exact ⟨by rw [HS.out]; rfl, rfl⟩
 | true =>
  go_enter Tryz.func68, Tryz.ntmps68
  go_wp2_with (go_at_call 46; refine (HI.out _).mono ?_; rintro e w1 ⟨rfl, rfl⟩)
  go_loop [10] (fun i => ∃ k : Nat, k ≤ s.size ∧ i = .int .i64 k ∧ Hid (∀ j (hj : j < s.data.toList.length), j < k → low s.data.toList[j] = true)) (fun i => s.size - (intOf i).toNat)
  case atStart => exact ⟨0, Nat.zero_le _, rfl, fun j hj h => by omega⟩
  case round =>
   obtain ⟨k, hk, rfl, hrel⟩ := hrel
   by_cases hlt : k < s.size
   ·
    have hb : s.data.toList[k]? = some s[k] := by
     rw [List.getElem?_eq_getElem (by rw [HZ.out]; exact hlt)]
     rfl
    have HB := Lib.hid hb
    clear hb
    have H1 := Lib.hid (fun w => L4.isLetter_any s[k] w)
    obtain ⟨bl, hbl⟩ : ∃ b, L4.isLet s[k] = b := ⟨_, rfl⟩
    rw [hbl] at H1
    rw [low_isLet] at hbl
    have HL := Lib.hid hbl
    clear hbl
    cases bl with
    | true =>
     go_wp2_with (go_at_call 100; refine (H1.out _).mono ?_; rintro e w1 ⟨rfl, rfl⟩)
     go_round
     case rel => exact ⟨k + 1, by omega, by go_num, fun j hj h => by
       by_cases e : j < k
       ·
        exact hrel.out j hj e
       ·
        obtain rfl : j = k := by omega
        have := HB.out
        rw [List.getElem?_eq_getElem hj] at this
        rw [Option.some.inj this]
        exact HL.out⟩
     case measure => simp [intOf]; omega
    | false =>
     go_wp2_with (go_at_call 100; refine (H1.out _).mono ?_; rintro e w1 ⟨rfl, rfl⟩)
     go_ret
     exact ⟨by rw [isN_no k _ HB.out HL.out]; rfl, rfl⟩
   ·
    go_wp2_with fail
    go_ret
    obtain rfl : k = s.size := by omega
    have e1 := isN_all (fun j hj => hrel.out j hj (by rw [HZ.out] at hj; exact hj))
    rw [HZ.out, HB0.out] at e1
    exact ⟨by rw [e1]; rfl, rfl⟩

set_option maxHeartbeats 1000000 in
theorem getField_any (a : Option Addr) (c : Nat) (l : List F) (s : ByteArray) (hl : l.length ≤ 1099511627776) (w : World) (hr : Reads w w.heap.size a (cellsF l)) :
  Calls Tryz.prog 196 #[.agg #[.slice a l.length c], .string s] w fun e w' => e = .returned (.tuple #[.int .i64 (getN l s.data.toList), .bool (getB l s.data.toList)]) ∧ Below w.heap.size w w' := by
 have HBL := Lib.hid (below_alloc (Below.refl w.heap.size w) (.cells #[.slice a l.length c] 131) (Nat.le_refl _))
 have HR := Lib.hid (fun w' (h : Below w.heap.size w w') => hr.below h)
 obtain ⟨n, hn⟩ : ∃ n, n = l.length := ⟨_, rfl⟩
 rw [← hn] at HBL ⊢
 rw [← hn] at hl
 have HN := Lib.hid hn
 clear hn hr
 have hl' : (n : Int) ≤ 1099511627776 := by omega
 go_enter Tryz.func196, Tryz.ntmps196
 go_wp2_with fail
 go_loopw [11] (fun i wr => ∃ k : Nat, k ≤ n ∧ i = .int .i64 k ∧ Hid (Below w.heap.size w wr ∧ ∀ j (hj : j < l.length), j < k → l[j].t ≠ s.data.toList)) (fun i _ => n - (intOf i).toNat)
 case atStart => exact ⟨0, Nat.zero_le _, rfl, HBL.out, fun j hj h => by omega⟩
 case round =>
  obtain ⟨k, hk, rfl, hrel⟩ := hrel
  by_cases hlt : (k : Int) < (n : Int)
  ·
   have hkl : k < l.length := by have := HN.out; omega
   obtain ⟨ad, rfl, had, h1, h2⟩ := readsF (HR.out _ hrel.out.1) k hkl
   obtain ⟨t, ht⟩ : ∃ t, t = l[k].name := ⟨_, rfl⟩
   obtain ⟨m, hm⟩ : ∃ m, m = l[k].n := ⟨_, rfl⟩
   rw [← ht] at h1
   rw [← hm] at h2
   have HW := Lib.hid (below_alloc hrel.out.1 (.cells #[.string t, .int .i64 m] 184) (Nat.le_refl _))
   by_cases he : t.data.toList = s.data.toList
   ·
    have heq : (t.toList == s.toList) = true := by rw [ByteArray.toList_eq, ByteArray.toList_eq, he, beq_self_eq_true]
    have HG := Lib.hid (getO_at k hkl (show l[k].t = s.data.toList by unfold F.t; rw [← ht]; exact he) hrel.out.2)
    rw [← hm] at HG
    clear ht hm he
    go_wp2_with fail
    go_ret2
    exact ⟨by unfold getN getB; rw [HG.out]; rfl, HW.out⟩
   ·
    have heq : (t.toList == s.toList) = false := by rw [ByteArray.toList_eq, ByteArray.toList_eq, beq_eq_false_iff_ne]; exact he
    have HT := Lib.hid (show l[k].t ≠ s.data.toList by unfold F.t; rw [← ht]; exact he)
    clear ht hm he
    go_wp2_with fail
    go_roundw
    case rel => exact ⟨k + 1, by omega, by go_num, HW.out, fun j hj h => by
     by_cases e : j < k
     ·
      exact hrel.out.2 j hj e
     ·
      obtain rfl : j = k := by omega
      exact HT.out⟩
    case measure => simp [intOf]; omega
  ·
   go_wp2_with fail
   go_ret2
   have HG := getO_none (l := l) (name := s.data.toList) (fun j hj => hrel.out.2 j hj (by have := HN.out; omega))
   exact ⟨by unfold getN getB; rw [HG]; rfl, hrel.out.1⟩
end Go.Proofs.YthljdhfgphebnaaGreat.L5

set_option linter.unusedSimpArgs false
namespace Go.Proofs.YthljdhfgphebnaaGreat.L5
open Go.Op (bytesLess)
open L4 (boxR push_box box_at)
open Go.ChangeShapes Go.WideShapes Go.ChangeAt Go.RowKit Mem Sl Ex L2 Sv

theorem isR_long {l : List F} (h : ¬ l.length ≤ 6) : isR l = false := by
 unfold isR
 rw [Bool.and_eq_false_iff]
 exact .inr (decide_eq_false h)
theorem Row.two {w : World} {g : Nat} {t : TypeId} {x y : Value} (h : Row w g t #[x, y]) : w.cell? ⟨g, 0, none⟩ = some x ∧ w.cell? ⟨g, 1, none⟩ = some y := ⟨by rw [h.cell]; rfl, by rw [h.cell]; rfl⟩
set_option maxHeartbeats 4000000 in
theorem isRecord_any (a : Option Addr) (c : Nat) (l : List F) (hl : l.length ≤ 1099511627776) (hsm : Small l) (w : World) (hr : Reads w w.heap.size a (cellsF l)) :
  Calls Tryz.prog 138 #[.agg #[.slice a l.length c]] w fun e w' => e = .returned (.bool (isR l)) ∧ Below w.heap.size w w' := by
 have HR := Lib.hid (fun w' (h : Below w.heap.size w w') => hr.below h)
 obtain ⟨n, hn⟩ : ∃ n, n = l.length := ⟨_, rfl⟩
 rw [← hn]
 rw [← hn] at hl
 have HN := Lib.hid hn
 have HS := Lib.hid hsm
 clear hn hr hsm
 have hl' : (n : Int) ≤ 1099511627776 := by omega
 have S1 := Lib.hid (push_box (Sep.start w) 131 #[.slice a n c] w.heap.size rfl)
 obtain ⟨W1, hW1⟩ : ∃ u, u = w.alloc (.cells #[.slice a n c] 131) := ⟨_, rfl⟩
 rw [← hW1] at S1
 go_enter Tryz.func138, Tryz.ntmps138
 go_upto_region 1 with fail
 rw [← hW1]
 clear hW1
 obtain ⟨r0, r1⟩ := Row.one (box_at S1.out 0 rfl)
 by_cases h6 : (n : Int) ≤ 6
 rotate_left
 ·
  have HX := Lib.hid (isR_long (l := l) (by have := HN.out; omega))
  have h6' : (6 : Int) < (n : Int) := by omega
  go_wp2_with fail
  go_ret
  exact ⟨by rw [HX.out]; rfl, S1.out.old⟩
 go_wp2_with fail
 go_loopw [12] (fun i wr => ∃ k : Nat, k ≤ n ∧ i = .int .i64 k ∧ Hid (okTo l k ∧ Sep w wr [boxR w.heap.size 131 #[.slice a n c]])) (fun i _ => n - (intOf i).toNat)
 case atStart => exact ⟨0, Nat.zero_le _, rfl, fun j hj h => by omega, S1.out⟩
 case round =>
  obtain ⟨k, hk, rfl, hrel⟩ := hrel
  clear r0 r1
  by_cases hlt : (k : Int) < (n : Int)
  ·
   have hkl : k < l.length := by have := HN.out; omega
   have HRr := Lib.hid (HR.out _ hrel.out.2.old)
   obtain ⟨ad, rfl, had, h1, h2⟩ := readsF HRr.out k hkl
   have HNm := Lib.hid (fun w => isName_any l[k].name (HS.out _ (List.getElem_mem hkl)) w)
   have HI := Lib.hid (fun w => L1.inRange_any l[k].n 0 1000000000 w)
   obtain ⟨bn, hbn⟩ : ∃ b, isN l[k].name.data.toList = b := ⟨_, rfl⟩
   obtain ⟨bi, hbi⟩ : ∃ b, L1.inB l[k].n 0 1000000000 = b := ⟨_, rfl⟩
   have HO := Lib.hid (show okF l[k] = (bn && bi) by unfold okF; rw [hbi]; unfold F.t; rw [hbn])
   rw [hbn] at HNm
   rw [hbi] at HI
   obtain ⟨t, ht⟩ : ∃ t, t = l[k].name := ⟨_, rfl⟩
   obtain ⟨m, hm⟩ : ∃ m, m = l[k].n := ⟨_, rfl⟩
   rw [← ht] at h1 HNm
   rw [← hm] at h2 HI
   clear hbn hbi hm
   have HT := Lib.hid ht
   clear ht
   have S2 := Lib.hid (push_box hrel.out.2 184 #[.string t, .int .i64 m] wr.heap.size rfl)
   obtain ⟨W2, hW2⟩ : ∃ u, u = wr.alloc (.cells #[.string t, .int .i64 m] 184) := ⟨_, rfl⟩
   rw [← hW2] at S2
   have S3 := Lib.hid (S2.out.drews 1)
   have S4 := Lib.hid (sep_sub S3.out (ts := [boxR w.heap.size 131 #[.slice (some ad) n c]]) id (fun i r h => by match i, h with | 0, h => exact h) (fun i j _ _ h => h))
   rcases Nat.eq_zero_or_pos k with rfl | hk0
   ·
    rw [Nat.zero_mul, show ad.add 0 = ad by simp [Addr.add]] at h1 h2
    go_upto_region 6 with fail
    rw [← hW2]
    clear hW2
    obtain ⟨r0, r1⟩ := Row.one (box_at S2.out 0 rfl)
    obtain ⟨q0, q1⟩ := Row.two (box_at S2.out 1 rfl)
    by_cases hb : (bn && bi) = true
    ·
     simp only [Bool.and_eq_true] at hb
     obtain ⟨rfl, rfl⟩ := hb
     have HOt := Lib.hid (show okF l[0] = true from HO.out)
     clear HO
     go_upto_region 8 with (first | (go_at_call 68; refine (HNm.out _).mono ?_; rintro e w1 ⟨rfl, rfl⟩) | (go_at_call 46; refine (HI.out _).mono ?_; rintro e w1 ⟨rfl, rfl⟩))
     refine wp_region_held_drew (S := (fun w' => w'.cell? ⟨w.heap.size, 0, none⟩ = some (.slice (some ad) n c) ∧ w'.cell? ⟨wr.heap.size, 0, none⟩ = some (.string t))) (by kernel_rfl) ⟨r0, q0⟩ (fun hS => ?_)
     refine tk 0 rfl ?_
     try simp only [zp0, zp1, zp2, zp3, zp4]
     refine tk 1 rfl ?_
     try simp only [zp0, zp1, zp2, zp3, zp4]
     refine tk 2 rfl ?_
     try simp only [zp0, zp1, zp2, zp3, zp4]
     refine sk 3 rfl ?_
     try simp only [zp0, zp1, zp2, zp3, zp4]
     refine sk 4 rfl ?_
     try simp only [zp0, zp1, zp2, zp3, zp4]
     refine sk 5 rfl ?_
     try simp only [zp0, zp1, zp2, zp3, zp4]
     refine sk 6 rfl ?_
     try simp only [zp0, zp1, zp2, zp3, zp4]
     refine sk 7 rfl ?_
     try simp only [zp0, zp1, zp2, zp3, zp4]
     refine sk 8 rfl ?_
     try simp only [zp0, zp1, zp2, zp3, zp4]
     refine sk 9 rfl ?_
     try simp only [zp0, zp1, zp2, zp3, zp4]
     refine sk 10 rfl ?_
     try simp only [zp0, zp1, zp2, zp3, zp4]
     refine sk 11 rfl ?_
     try simp only [zp0, zp1, zp2, zp3, zp4]
     refine sk 12 rfl ?_
     try simp only [zp0, zp1, zp2, zp3, zp4]
     refine tk 13 rfl ?_
     try simp only [zp0, zp1, zp2, zp3, zp4]
     refine wpAnyH_done (by kernel_rfl) ?_ _
     go_wp2_with fail
     go_roundw
     case rel => exact ⟨1, by omega, by go_num, fun j hj h => by
       obtain rfl : j = 0 := by omega
       exact ⟨HOt.out, fun h0 => by omega⟩, S4.out⟩
     case measure => simp [intOf]; omega
    ·
     have HX := Lib.hid (isR_no 0 hkl (.inl (by rw [HO.out]; simpa using hb)))
     rcases (show bn = false ∨ (bn = true ∧ bi = false) by cases bn <;> simp_all) with rfl | ⟨rfl, rfl⟩
     all_goals
      clear hb HO
      go_wp2_with (first | (go_at_call 68; refine (HNm.out _).mono ?_; rintro e w1 ⟨rfl, rfl⟩) | (go_at_call 46; refine (HI.out _).mono ?_; rintro e w1 ⟨rfl, rfl⟩))
      go_ret
      exact ⟨by rw [HX.out]; rfl, S2.out.old⟩
   ·
    obtain ⟨j, rfl⟩ : ∃ j, k = j + 1 := ⟨k - 1, by omega⟩
    go_upto_region 6 with fail
    rw [← hW2]
    clear hW2
    obtain ⟨r0, r1⟩ := Row.one (box_at S2.out 0 rfl)
    obtain ⟨q0, q1⟩ := Row.two (box_at S2.out 1 rfl)
    by_cases hb : (bn && bi) = true
    ·
     simp only [Bool.and_eq_true] at hb
     obtain ⟨rfl, rfl⟩ := hb
     have HOt := Lib.hid (show okF l[j + 1] = true from HO.out)
     clear HO
     obtain ⟨ad', e', -, h3, -⟩ := readsF (HR.out _ S2.out.old) j (by omega)
     injection e' with e'
     subst e'
     obtain ⟨p, hp⟩ : ∃ p, p = (l[j]'(by omega)).name := ⟨_, rfl⟩
     rw [← hp] at h3
     have hwj : IntKind.i64.wrap (j : Int) = (j : Int) := IntWalk.i64_in _ ⟨by omega, by omega⟩
     have k1 : (0 : Int) ≤ (j : Int) + 1 := by omega
     have k2 : (j : Int) + 1 < (n : Int) := by omega
     have k3 : (0 : Int) ≤ (j : Int) := by omega
     have k4 : (j : Int) < (n : Int) := by omega
     have hge := string_geq
     obtain ⟨bo, hbo⟩ : ∃ b, bytesLess p.toList t.toList = b := ⟨_, rfl⟩
     have HB := Lib.hid (show bytesLess (l[j]'(by omega)).t l[j + 1].t = bo by unfold F.t; rw [← hp, ← HT.out, ← hbo, ByteArray.toList_eq, ByteArray.toList_eq])
     clear hp
     cases bo with
     | false =>
      have HX := Lib.hid (isR_no (j + 1) hkl (.inr ⟨Nat.succ_pos j, HB.out⟩))
      go_upto_region 8 with (first | (go_at_call 68; refine (HNm.out _).mono ?_; rintro e w1 ⟨rfl, rfl⟩) | (go_at_call 46; refine (HI.out _).mono ?_; rintro e w1 ⟨rfl, rfl⟩))
      refine wp_region_held_drew (S := (fun w' => w'.cell? ⟨w.heap.size, 0, none⟩ = some (.slice (some ad) n c) ∧ w'.cell? ⟨wr.heap.size, 0, none⟩ = some (.string t) ∧ w'.cell? (ad.add (j * 2)) = some (.string p))) (by kernel_rfl) ⟨r0, q0, h3⟩ (fun hS => ?_)
      refine tk 0 rfl ?_
      try simp only [zp0, zp1, zp2, zp3, zp4]
      refine tk 1 rfl ?_
      try simp only [zp0, zp1, zp2, zp3, zp4]
      refine tk 2 rfl ?_
      try simp only [zp0, zp1, zp2, zp3, zp4]
      refine tk 3 rfl ?_
      try simp only [zp0, zp1, zp2, zp3, zp4]
      refine tk 4 rfl ?_
      try simp only [zp0, zp1, zp2, zp3, zp4]
      refine tk 5 rfl ?_
      try simp only [zp0, zp1, zp2, zp3, zp4]
      refine tk 6 rfl ?_
      try simp only [zp0, zp1, zp2, zp3, zp4]
      refine tk 7 rfl ?_
      try simp only [zp0, zp1, zp2, zp3, zp4]
      refine tk 8 rfl ?_
      try simp only [zp0, zp1, zp2, zp3, zp4]
      refine tk 9 rfl ?_
      try simp only [zp0, zp1, zp2, zp3, zp4]
      refine tk 10 rfl ?_
      try simp only [zp0, zp1, zp2, zp3, zp4]
      refine tk 11 rfl ?_
      try simp only [zp0, zp1, zp2, zp3, zp4]
      refine tk 12 rfl ?_
      try simp only [zp0, zp1, zp2, zp3, zp4]
      refine tk 13 rfl ?_
      try simp only [zp0, zp1, zp2, zp3, zp4]
      refine wpAnyH_done (by kernel_rfl) ?_ _
      go_wp2_with fail
      go_ret
      exact ⟨by rw [HX.out]; rfl, S4.out.old⟩
     | true =>
      go_upto_region 8 with (first | (go_at_call 68; refine (HNm.out _).mono ?_; rintro e w1 ⟨rfl, rfl⟩) | (go_at_call 46; refine (HI.out _).mono ?_; rintro e w1 ⟨rfl, rfl⟩))
      refine wp_region_held_drew (S := (fun w' => w'.cell? ⟨w.heap.size, 0, none⟩ = some (.slice (some ad) n c) ∧ w'.cell? ⟨wr.heap.size, 0, none⟩ = some (.string t) ∧ w'.cell? (ad.add (j * 2)) = some (.string p))) (by kernel_rfl) ⟨r0, q0, h3⟩ (fun hS => ?_)
      refine tk 0 rfl ?_
      try simp only [zp0, zp1, zp2, zp3, zp4]
      refine tk 1 rfl ?_
      try simp only [zp0, zp1, zp2, zp3, zp4]
      refine tk 2 rfl ?_
      try simp only [zp0, zp1, zp2, zp3, zp4]
      refine tk 3 rfl ?_
      try simp only [zp0, zp1, zp2, zp3, zp4]
      refine tk 4 rfl ?_
      try simp only [zp0, zp1, zp2, zp3, zp4]
      refine tk 5 rfl ?_
      try simp only [zp0, zp1, zp2, zp3, zp4]
      refine tk 6 rfl ?_
      try simp only [zp0, zp1, zp2, zp3, zp4]
      refine tk 7 rfl ?_
      try simp only [zp0, zp1, zp2, zp3, zp4]
      refine tk 8 rfl ?_
      try simp only [zp0, zp1, zp2, zp3, zp4]
      refine tk 9 rfl ?_
      try simp only [zp0, zp1, zp2, zp3, zp4]
      refine tk 10 rfl ?_
      try simp only [zp0, zp1, zp2, zp3, zp4]
      refine tk 11 rfl ?_
      try simp only [zp0, zp1, zp2, zp3, zp4]
      refine tk 12 rfl ?_
      try simp only [zp0, zp1, zp2, zp3, zp4]
      refine tk 13 rfl ?_
      try simp only [zp0, zp1, zp2, zp3, zp4]
      refine wpAnyH_done (by kernel_rfl) ?_ _
      go_wp2_with fail
      go_roundw
      case rel => exact ⟨j + 1 + 1, by omega, by go_num, fun q hq h => by
       by_cases e : q < j + 1
       ·
        exact hrel.out.1 q hq e
       ·
        obtain rfl : q = j + 1 := by omega
        exact ⟨HOt.out, fun _ => HB.out⟩, S4.out⟩
      case measure => simp [intOf]; omega
    ·
     have HX := Lib.hid (isR_no (j + 1) hkl (.inl (by rw [HO.out]; simpa using hb)))
     rcases (show bn = false ∨ (bn = true ∧ bi = false) by cases bn <;> simp_all) with rfl | ⟨rfl, rfl⟩
     all_goals
      clear hb HO
      go_wp2_with (first | (go_at_call 68; refine (HNm.out _).mono ?_; rintro e w1 ⟨rfl, rfl⟩) | (go_at_call 46; refine (HI.out _).mono ?_; rintro e w1 ⟨rfl, rfl⟩))
      go_ret
      exact ⟨by rw [HX.out]; rfl, S2.out.old⟩
  ·
   go_wp2_with fail
   go_ret
   exact ⟨by rw [isR_iff.2 ⟨fun j hj _ => hrel.out.1 j hj (by have := HN.out; omega), by have := HN.out; omega⟩]; rfl, hrel.out.2.old⟩
end Go.Proofs.YthljdhfgphebnaaGreat.L5

namespace Go.Proofs.YthljdhfgphebnaaGreat.L4
open Go.Op (bytesLess)
open Go.ChangeShapes Go.WideShapes Go.ChangeAt Go.RowKit Mem Sl Ex L2

theorem cmpB_eq : ∀ (x y : List UInt8), Lib.compareBytes x y = cmpL x y
 | [], [] => by simp [Lib.compareBytes, cmpL, sgn, bytesLess]
 | [], _ :: _ => by simp [Lib.compareBytes, cmpL, sgn, bytesLess]
 | _ :: _, [] => by simp [Lib.compareBytes, cmpL, sgn, bytesLess]
 | a :: x, b :: y => by
  rw [cmpL_cons, ← cmpB_eq x y, show Lib.compareBytes (a :: x) (b :: y) = if a < b then -1 else if b < a then 1 else Lib.compareBytes x y by simp only [Lib.compareBytes]]
  by_cases e : a = b
  ·
   subst e
   rw [if_pos rfl, if_neg (UInt8.lt_irrefl _), if_neg (UInt8.lt_irrefl _)]
  ·
   rw [if_neg e]
   by_cases h : a < b
   ·
    rw [if_pos h, cmpL_less (by simp [bytesLess, h])]
   ·
    have h2 : b < a := UInt8.lt_of_le_of_ne (UInt8.not_lt.1 h) (Ne.symm e)
    rw [if_neg h, if_pos h2, cmpL_more (by simp [bytesLess, h2])]

theorem run_loadBytesL {P : Program} (w : World) : ∀ (l : List Int) (a : Addr) (acc : ByteArray), (∀ j (hj : j < l.length), w.cell? (a.add j) = some (.int .u8 l[j])) →
  (Extern.Bytes.loadBytes a l.length acc).run P w = .ok ⟨acc.data ++ (toU l).toArray⟩ w
 | [], a, acc, _ => by simp [Extern.Bytes.loadBytes, toU]
 | x :: l, a, acc, h => by
  have h0 : w.cell? a = some (.int .u8 x) := by
   have := h 0 (Nat.succ_pos _)
   simpa [Addr.add] using this
  have ih := run_loadBytesL (P := P) w l (a.add 1) (acc.push x.toNat.toUInt8) (fun j hj => by
   have := h (j + 1) (Nat.succ_lt_succ hj)
   have e : (a.add 1).add j = a.add (j + 1) := by
    unfold Addr.add
    by_cases hj : j = 0
    ·
     subst hj; simp
    ·
     simp [hj]; omega
   rw [e]; simpa using this)
  simp only [List.length_cons, Extern.Bytes.loadBytes, Sem.run_bind, run_load, h0, Result.andThen]
  rw [ih]
  congr 1
  apply ByteArray.ext
  simp [ByteArray.push, toU, UInt8.ofNat]
theorem run_bytesOf {P : Program} (w : World) (B : Nat) (a : Option Addr) (c : Nat) (l : List Int) (hr : Reads w B a (ints .u8 l)) :
  (Extern.Bytes.bytesOf (.slice a l.length c)).run P w = .ok ⟨(toU l).toArray⟩ w := by
 rcases a with _ | ad
 ·
  have hl : l = [] := by
   rcases l with _ | ⟨x, l⟩
   ·
    rfl
   ·
    obtain ⟨ad, h, _⟩ := hr 0 (by simp [ints])
    cases h
  subst hl
  rfl
 ·
  have := run_loadBytesL (P := P) w l ad .empty (fun j hj => by
   obtain ⟨ad', h, _, hc⟩ := hr j (by simpa using hj)
   injection h with h
   subst h
   rw [hc, ints_get .u8 l j hj])
  unfold Extern.Bytes.bytesOf
  rw [this]
  simp [ByteArray.empty, ByteArray.emptyWithCapacity]
  rfl
theorem run_compareBytes {P : Program} (w : World) (B : Nat) (a a2 : Option Addr) (c c2 : Nat) (l m : List Int) (hr : Reads w B a (ints .u8 l)) (hr2 : Reads w B a2 (ints .u8 m)) :
  (Extern.BytealgCompare.compare #[.slice a l.length c, .slice a2 m.length c2]).run P w = .ok (.int .i64 (cmpL (toU l) (toU m))) w := by
 change Sem.run P (do pure (goInt (Extern.BytealgCompare.cmp (← Extern.Bytes.bytesOf (.slice a l.length c)) (← Extern.Bytes.bytesOf (.slice a2 m.length c2))))) w = _
 simp only [Sem.run_bind, run_bytesOf w B a c l hr, run_bytesOf w B a2 c2 m hr2, Sem.run_pure, Result.andThen]
 rw [Lib.cmp_eq, cmpB_eq]
 rfl

theorem bytesCompare_any (a a2 : Option Addr) (c c2 : Nat) (l m : List Int) (w : World) (B : Nat) (hr : Reads w B a (ints .u8 l)) (hr2 : Reads w B a2 (ints .u8 m)) :
  Calls Tryz.prog 193 #[.slice a l.length c, .slice a2 m.length c2] w fun e w' => e = .returned (.int .i64 (cmpL (toU l) (toU m))) ∧ w = w' := by
 have K := run_compareBytes (P := Tryz.prog) w B a a2 c c2 l m hr hr2
 obtain ⟨n1, hn1⟩ : ∃ n, n = l.length := ⟨_, rfl⟩
 obtain ⟨n2, hn2⟩ : ∃ n, n = m.length := ⟨_, rfl⟩
 obtain ⟨v, hv⟩ : ∃ v, v = cmpL (toU l) (toU m) := ⟨_, rfl⟩
 rw [← hn1, ← hn2, ← hv] at K
 rw [← hn1, ← hn2, ← hv]
 clear hn1 hn2 hv hr hr2
 go_enter Tryz.func193, Tryz.ntmps193
 go_wp2
 rw [run_callFunc_extern Tryz.func210 (by kernel_rfl) (by kernel_rfl) (by kernel_rfl) (e := Extern.BytealgCompare.compare) (by kernel_rfl), K]
 simp only [Result.andThen]
 rw [Oper.upon_value]
 go_wp2
 go_ret
 exact ⟨rfl, rfl⟩
theorem implCompareBytes_any (a a2 : Option Addr) (c c2 : Nat) (l m : List Int) (w : World) (B : Nat) (hr : Reads w B a (ints .u8 l)) (hr2 : Reads w B a2 (ints .u8 m)) :
  Calls Tryz.prog 169 #[.slice a l.length c, .slice a2 m.length c2] w fun e w' => e = .returned (.int .i64 (cmpL (toU l) (toU m))) ∧ Drew w w' := by
 have H := Lib.hid (fun w hr hr2 => bytesCompare_any a a2 c c2 l m w B hr hr2)
 go_enter Tryz.func169, Tryz.ntmps169
 go_wp2_with (go_at_call 193; with_reducible refine (H.out _ hr hr2).mono ?_; rintro e w1 ⟨rfl, rfl⟩)
 go_ret
 exact ⟨rfl, Drew.refl w⟩

theorem compareString_any (a b : ByteArray) (w : World) :
  Calls Tryz.prog 142 #[.string a, .string b] w fun e w' => e = .returned (.int .i64 (cmpL a.data.toList b.data.toList)) ∧ w = w' := by
 have K := Lib.run_compareString (P := Tryz.prog) a b w
 rw [cmpB_eq] at K
 obtain ⟨v, hv⟩ : ∃ v, v = cmpL a.data.toList b.data.toList := ⟨_, rfl⟩
 rw [← hv] at K ⊢
 clear hv
 go_enter Tryz.func142, Tryz.ntmps142
 go_wp2
 rw [run_callFunc_extern Tryz.func172 (by kernel_rfl) (by kernel_rfl) (by kernel_rfl) (e := Extern.BytealgCompare.compare) (by kernel_rfl), K]
 simp only [Result.andThen]
 rw [Oper.upon_value]
 go_wp2
 go_ret
 exact ⟨rfl, rfl⟩
theorem stringsCompare_any (a b : ByteArray) (w : World) :
  Calls Tryz.prog 108 #[.string a, .string b] w fun e w' => e = .returned (.int .i64 (cmpL a.data.toList b.data.toList)) ∧ w = w' := by
 have H := Lib.hid (fun w => compareString_any a b w)
 go_enter Tryz.func108, Tryz.ntmps108
 go_wp2_with (go_at_call 142; with_reducible refine (H.out _).mono ?_; rintro e w1 ⟨rfl, rfl⟩)
 go_ret
 exact ⟨rfl, rfl⟩
theorem isNaN_any (x : Int) (w : World) :
  Calls Tryz.prog 192 #[.int .i64 x] w fun e w' => e = .returned (.bool false) ∧ w = w' := by
 go_enter Tryz.func192, Tryz.ntmps192
 go_wp2
 go_ret
 exact ⟨by simp, rfl⟩
theorem cmpInt_any (x y : Int) (hn : ¬ x = y) (w : World) :
  Calls Tryz.prog 167 #[.int .i64 x, .int .i64 y] w fun e w' => e = .returned (.int .i64 (sgn (decide (x < y)) true)) ∧ w = w' := by
 have H := Lib.hid isNaN_any
 rcases (show x < y ∨ (¬ x < y ∧ x > y) by omega) with h | ⟨h, h2⟩
 all_goals
  go_enter Tryz.func167, Tryz.ntmps167
  go_wp2_with (go_at_call 192; refine (H.out _ _).mono ?_; rintro e w1 ⟨rfl, rfl⟩)
  go_ret
  exact ⟨by simp [h, sgn], rfl⟩
end Go.Proofs.YthljdhfgphebnaaGreat.L4

namespace Go.Proofs.YthljdhfgphebnaaGreat.L4
open Go.ChangeShapes Go.WideShapes Go.ChangeAt Go.RowKit Mem Sl Ex L2

def isDig (c : UInt8) : Bool := decide (48 ≤ c.toNat) && decide (c.toNat ≤ 57)
theorem chr_eq (c : UInt8) : chr c = (isLet c || isDig c) := rfl

theorem isDigit_any (c : UInt8) (w : World) :
    Calls Tryz.prog 191 #[.int .u8 c.toNat] w fun e w' => e = .returned (.bool (isDig c)) ∧ w = w' := by
  by_cases h1 : (48 : Int) ≤ c.toNat <;> by_cases h2 : (c.toNat : Int) ≤ 57 <;>
    (go_enter Tryz.func191, Tryz.ntmps191
     go_wp2
     go_ret
     exact ⟨L1.ret_bool (by unfold isDig; have h1' := h1; have h2' := h2; simp only [Bool.false_eq, Bool.true_eq, Bool.and_eq_false_iff, Bool.and_eq_true, decide_eq_false_iff_not, decide_eq_true_eq]; omega), rfl⟩)
theorem isKeyNumber_any (n : Int) (w : World) :
    Calls Tryz.prog 165 #[.int .i64 n] w fun e w' => e = .returned (.bool (L1.inB n (-1000000000000) 1000000000000)) ∧ w = w' := by
  have H1 := Lib.hid (fun w => L1.inRange_any n (-1000000000000) 1000000000000 w)
  obtain ⟨b, hb⟩ : ∃ b, L1.inB n (-1000000000000) 1000000000000 = b := ⟨_, rfl⟩
  rw [hb] at H1 ⊢
  go_enter Tryz.func165, Tryz.ntmps165
  go_wp2_with (go_at_call 46; with_reducible refine (H1.out _).mono ?_; rintro e w1 ⟨rfl, rfl⟩)
  go_ret
  exact ⟨rfl, rfl⟩
theorem isKeyText_any (s : ByteArray) (hs : s.size ≤ 281474976710656) (w : World) :
    Calls Tryz.prog 166 #[.string s] w fun e w' => e = .returned (.bool (isT s.data.toList)) ∧ w = w' := by
  have hsz : s.data.toList.length = s.size := by rw [Array.length_toList]; rfl
  have HZ := Lib.hid hsz
  clear hsz
  by_cases h12 : (s.size : Int) ≤ 12
  · go_enter Tryz.func166, Tryz.ntmps166
    go_wp2
    go_loop [9] (fun i => ∃ k : Nat, k ≤ s.size ∧ i = .int .i64 k ∧ Hid (∀ j (hj : j < s.data.toList.length), j < k → chr s.data.toList[j] = true)) (fun i => s.size - (intOf i).toNat)
    case atStart => exact ⟨0, Nat.zero_le _, rfl, fun j hj h => by omega⟩
    case round =>
      obtain ⟨k, hk, rfl, hrel⟩ := hrel
      by_cases hlt : k < s.size
      · have hb : s.data.toList[k]? = some s[k] := by
          rw [List.getElem?_eq_getElem (by rw [HZ.out]; exact hlt)]
          rfl
        have HB := Lib.hid hb
        clear hb
        have HC := Lib.hid (chr_eq s[k])
        have H1 := Lib.hid (fun w => isLetter_any s[k] w)
        have H2 := Lib.hid (fun w => isDigit_any s[k] w)
        obtain ⟨bl, hbl⟩ : ∃ b, isLet s[k] = b := ⟨_, rfl⟩
        obtain ⟨bd, hbd⟩ : ∃ b, isDig s[k] = b := ⟨_, rfl⟩
        rw [hbl] at H1 HC
        rw [hbd] at H2 HC
        clear hbl hbd
        cases bl
        all_goals
          cases bd
          all_goals
            go_wp2_with (first
              | (go_at_call 100; refine (H1.out _).mono ?_; rintro e w1 ⟨rfl, rfl⟩)
              | (go_at_call 191; refine (H2.out _).mono ?_; rintro e w1 ⟨rfl, rfl⟩))
            first
            | (go_round
               case rel => exact ⟨k + 1, by omega, by go_num, fun j hj h => by
                  by_cases e : j < k
                  · exact hrel.out j hj e
                  · obtain rfl : j = k := by omega
                    have := HB.out
                    rw [List.getElem?_eq_getElem hj] at this
                    rw [Option.some.inj this]
                    exact HC.out⟩
               case measure => simp [intOf]; omega)
            | (go_ret
               exact ⟨by rw [isT_no k _ HB.out HC.out]; rfl, rfl⟩)
      · go_wp2
        go_ret
        obtain rfl : k = s.size := by omega
        have e1 := isT_all (fun j hj => hrel.out j hj (by rw [HZ.out] at hj; exact hj))
        rw [HZ.out] at e1
        refine ⟨?_, rfl⟩
        rw [e1, decide_eq_true (show s.size ≤ 12 by omega)]
        rfl
  · go_enter Tryz.func166, Tryz.ntmps166
    go_wp2
    go_ret
    refine ⟨?_, rfl⟩
    have : isT s.data.toList = false := by
      unfold isT
      rw [HZ.out, decide_eq_false (show ¬ s.size ≤ 12 by omega), Bool.and_false]
    rw [this]
    rfl
set_option maxHeartbeats 2000000 in
theorem implIsKey_any (k : K) (hs : k.text.size ≤ 281474976710656) (w : World) :
    Calls Tryz.prog 137 #[k.v] w fun e w' => e = .returned (.bool (isK k)) ∧ Below w.heap.size w w' := by
  obtain ⟨kd, n, s⟩ := k
  unfold K.v
  obtain ⟨b2, hb2⟩ : ∃ b, L1.inB n (-1000000000000) 1000000000000 = b := ⟨_, rfl⟩
  obtain ⟨b4, hb4⟩ : ∃ b, isT s.data.toList = b := ⟨_, rfl⟩
  have H2 := Lib.hid (fun w => isKeyNumber_any n w)
  have H4 := Lib.hid (fun w => isKeyText_any s hs w)
  rw [hb2] at H2
  rw [hb4] at H4
  obtain ⟨c0, hc0⟩ : ∃ b, (n == 0) = b := ⟨_, rfl⟩
  obtain ⟨ct, hct⟩ : ∃ b, (s.toList == []) = b := ⟨_, rfl⟩
  have HE := show isK ⟨kd, n, s⟩ = (L1.inB kd 1 3 && b2 && (kd != 2 || c0) && b4 && (kd != 1 || ct)) by unfold isK; rw [hb2, show K.t ⟨kd, n, s⟩ = s.data.toList from rfl, hb4, ← hct, ByteArray.toList_eq, ← hc0]
  have hx1 : ct = true → b4 = true := fun h => by
    rw [h, ByteArray.toList_eq, beq_iff_eq] at hct
    rw [← hb4, hct]
    rfl
  have hx2 : c0 = true → b2 = true := fun h => by
    rw [h, beq_iff_eq] at hc0
    rw [← hb2, hc0]
    rfl
  have HB := Lib.hid (fun o => below_alloc (Below.refl w.heap.size w) o (Nat.le_refl _))
  clear hb2 hb4
  rcases (show kd = 1 ∨ kd = 2 ∨ kd = 3 ∨ (kd ≠ 1 ∧ kd ≠ 2 ∧ kd ≠ 3) by omega) with rfl | rfl | rfl | ⟨hk1, hk2, hk3⟩
  · rw [show isK ⟨1, n, s⟩ = (b2 && ct) by rw [HE]; revert hx1; cases b2 <;> cases b4 <;> cases ct <;> simp [L1.inB]]
    clear HE hc0 hx1 hx2
    rcases (show b2 = false ∨ b2 = true by cases b2 <;> simp) with rfl | rfl
    all_goals
      go_enter Tryz.func137, Tryz.ntmps137
      go_wp2_with (go_at_call 165; with_reducible refine (H2.out _).mono ?_; rintro e w1 ⟨rfl, rfl⟩)
      go_ret
      exact ⟨rfl, HB.out _⟩
  · rw [show isK ⟨2, n, s⟩ = (c0 && b4) by rw [HE]; revert hx2; cases b2 <;> cases b4 <;> cases c0 <;> simp [L1.inB]]
    clear HE hct hx1 hx2
    rcases (show c0 = false ∨ c0 = true by cases c0 <;> simp) with rfl | rfl
    all_goals
      go_enter Tryz.func137, Tryz.ntmps137
      go_wp2_with (go_at_call 166; refine (H4.out _).mono ?_; rintro e w1 ⟨rfl, rfl⟩)
      go_ret
      exact ⟨rfl, HB.out _⟩
  · rw [show isK ⟨3, n, s⟩ = (b2 && b4) by rw [HE]; cases b2 <;> cases b4 <;> cases c0 <;> cases ct <;> simp [L1.inB]]
    clear HE hct hc0 hx1 hx2
    rcases (show b2 = false ∨ b2 = true by cases b2 <;> simp) with rfl | rfl
    all_goals
      go_enter Tryz.func137, Tryz.ntmps137
      go_wp2_with (first
        | (go_at_call 165; with_reducible refine (H2.out _).mono ?_; rintro e w1 ⟨rfl, rfl⟩)
        | (go_at_call 166; refine (H4.out _).mono ?_; rintro e w1 ⟨rfl, rfl⟩))
      go_ret
      exact ⟨rfl, HB.out _⟩
  · have : L1.inB kd 1 3 = false := L1.inB_false.2 (by omega)
    rw [HE, this]
    clear HE hct hc0 hx1 hx2 this
    replace hk1 : ¬ kd = 1 := hk1
    replace hk2 : ¬ kd = 2 := hk2
    replace hk3 : ¬ kd = 3 := hk3
    go_enter Tryz.func137, Tryz.ntmps137
    go_wp2_with fail
    go_ret
    exact ⟨by simp, HB.out _⟩
end Go.Proofs.YthljdhfgphebnaaGreat.L4

namespace Go.Proofs.YthljdhfgphebnaaGreat.L4
open Go.Op (bytesLess)
open Go.ChangeShapes Go.WideShapes Go.ChangeAt Go.RowKit Mem Sl Ex L2

def numCells (m : Nat) : Array Value := #[.int .u8 ((m / 1099511627776 % 256 : Nat) : Int), .int .u8 ((m / 4294967296 % 256 : Nat) : Int), .int .u8 ((m / 16777216 % 256 : Nat) : Int), .int .u8 ((m / 65536 % 256 : Nat) : Int), .int .u8 ((m / 256 % 256 : Nat) : Int), .int .u8 ((m / 1 % 256 : Nat) : Int)]

set_option maxHeartbeats 2000000 in
theorem encodeNumber_any (n : Int) (m : Nat) (hm : (m : Int) = n + 1000000000000) (h1 : n ≤ 1000000000000) (w : World) :
  Calls Tryz.prog 168 #[.int .i64 n] w fun e w' => e = .returned (.agg (numCells m)) ∧ Below w.heap.size w w' := by
 obtain ⟨M, hM⟩ : ∃ M : Int, M = n + 1000000000000 := ⟨_, rfl⟩
 have hM0 : 0 ≤ M := by omega
 have hM1 : M ≤ 2000000000000 := by omega
 go_enter Tryz.func168, Tryz.ntmps168
 go_wp2
 refine wp_loop_rounds 7 ?_
 iterate 7 (rw [rounds_succ]; go_wp2)
 refine bodyPost_ret (v := .agg _) (by simp [results, Tryz.results168, go_sem]; rfl) rfl ?_
 refine ⟨?_, below_alloc (below_alloc (Below.refl _ _) _ (Nat.le_refl _)) _ (Nat.le_refl _)⟩
 have e0 : (n + 1000000000000) / 256 / 256 / 256 / 256 / 256 = ((m / 1099511627776 % 256 : Nat) : Int) := by omega
 have e1 : (n + 1000000000000) / 256 / 256 / 256 / 256 % 256 = ((m / 4294967296 % 256 : Nat) : Int) := by omega
 have e2 : (n + 1000000000000) / 256 / 256 / 256 % 256 = ((m / 16777216 % 256 : Nat) : Int) := by omega
 have e3 : (n + 1000000000000) / 256 / 256 % 256 = ((m / 65536 % 256 : Nat) : Int) := by omega
 have e4 : (n + 1000000000000) / 256 % 256 = ((m / 256 % 256 : Nat) : Int) := by omega
 have e5 : (n + 1000000000000) % 256 = ((m / 1 % 256 : Nat) : Int) := by omega
 rw [e0, e1, e2, e3, e4, e5]
 rfl

theorem numCells_form (m : Nat) : ∃ x0 x1 x2 x3 x4 x5 : Int, numCells m = #[.int .u8 x0, .int .u8 x1, .int .u8 x2, .int .u8 x3, .int .u8 x4, .int .u8 x5] ∧ toI (be 6 m) = [x0, x1, x2, x3, x4, x5] := by
 refine ⟨_, _, _, _, _, _, rfl, ?_⟩
 simp only [be, toI, List.map_cons, List.map_nil, UInt8.toNat_ofNat', show (256 ^ 5 : Nat) = 1099511627776 from rfl, show (256 ^ 4 : Nat) = 4294967296 from rfl, show (256 ^ 3 : Nat) = 16777216 from rfl, show (256 ^ 2 : Nat) = 65536 from rfl, show (256 ^ 1 : Nat) = 256 from rfl, show (256 ^ 0 : Nat) = 1 from rfl, Nat.mod_mod]
theorem reads_row {w : World} {g : Nat} {t : TypeId} {k : IntKind} {l : List Int} (h : Row w g t (ints k l).toArray) : Reads w w.heap.size (some ⟨g, 0, none⟩) (ints k l) := fun j hj => by
 refine ⟨_, rfl, by simpa [add_block] using h.inside, ?_⟩
 rw [Addr.add_lit, h.cell]
 simp [List.getElem?_eq_getElem hj]

section
variable {P : Program} (w : World)
end

end Go.Proofs.YthljdhfgphebnaaGreat.L4

namespace Go.Proofs.YthljdhfgphebnaaGreat.L4
open Go.ChangeShapes Go.WideShapes Go.ChangeAt Go.RowKit Mem Sl Ex L2
set_option maxHeartbeats 2000000 in
theorem array_eq (x0 x1 x2 x3 x4 x5 y0 y1 y2 y3 y4 y5 : Int) (w : World) :
  (Op.equalIn 10000 209 (.agg #[.int .u8 x0, .int .u8 x1, .int .u8 x2, .int .u8 x3, .int .u8 x4, .int .u8 x5]) (.agg #[.int .u8 y0, .int .u8 y1, .int .u8 y2, .int .u8 y3, .int .u8 y4, .int .u8 y5])).run Tryz.prog w = .ok (decide ([x0, x1, x2, x3, x4, x5] = [y0, y1, y2, y3, y4, y5])) w := by
 obtain ⟨i0, hi, hz0, hz1, hz2⟩ := infoOf _ _ _ _ info8
 have hu : Tryz.prog.underlying 209 = some (.array 6 5) := Tryz.underlying209
 rw [show (10000 : Nat) = 9998 + 1 + 1 from rfl, run_equalIn_array w (9998 + 1) _ _ hu hi, show List.range 6 = [0, 1, 2, 3, 4, 5] from rfl, show Tryz.prog.cellsOf 5 = 1 by kernel_rfl]
 have he : ∀ (a b : Int) (w : World), (Op.equalIn (9998 + 1) 5 (.int .u8 a) (.int .u8 b)).run Tryz.prog w = .ok (a == b) w := fun a b w => run_equalIn_int w 9998 5 .u8 .u8 a b Tryz.underlying5
 simp [Op.eqItems, he, go_sem]
 (repeat' split) <;> simp_all
end Go.Proofs.YthljdhfgphebnaaGreat.L4

