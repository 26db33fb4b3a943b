/-
  The law FnExactMergeRecords answers true for every argument, and leaves its arguments as they were. No condition.
  (The frame is written by my program mk_law.py.)
-/
import Derived.Test.YtephiilicebdcaaPa
import Derived.SizedLaws
import Derived.LaidLaws
import Derived.ShutString
import Derived.Stop.LaidErr
import Derived.Lib.LaidTab
import Derived.Test.YtephiilicebdcaaL5Law
import Derived.Deep.RegionHeld3
import Derived.Test.YtephiilicebdcaaL5Sm
import Derived.Test.YtephiilicebdcaaL5Ij
namespace Go.Proofs.Ytephiilicebdcaa.lawFnExactMergeRecords
open Go.ChangeShapes Go.WideShapes Go.ChangeAt Go.RowKit
open Go.ChangeMaps (open_string shut_string)
set_option linter.unusedVariables false
theorem own : ownKnob Try.prog.godebug = none := by kernel_rfl
theorem laidOut : laidOutB Try.prog = true := by kernel_rfl
open Mem
theorem sep_take {W w : World} {rs ts : List Sl.Res} (h : Sl.Sep W w rs) (is : List Nat) (he : is.map (fun i => rs[i]?) = ts.map some) (hd : is.Nodup) : Sl.Sep W w ts := by
  have hl : is.length = ts.length := by simpa using congrArg List.length he
  have at_ : ∀ i r, ts[i]? = some r → rs[is.getD i 0]? = some r := fun i r hr => by
    have hi : i < ts.length := (List.getElem?_eq_some_iff.1 hr).1
    have h2 := congrArg (fun l => l[i]?) he
    simp only [List.getElem?_map, List.getElem?_eq_getElem (show i < is.length by omega), hr, Option.map_some] at h2
    rw [List.getD_eq_getElem?_getD, List.getElem?_eq_getElem (show i < is.length by omega)]
    simpa using h2
  refine Sv.sep_sub h (fun i => is.getD i 0) at_ (fun i j hi hj e => ?_)
  simp only [List.getD_eq_getElem?_getD, List.getElem?_eq_getElem (show i < is.length by omega), List.getElem?_eq_getElem (show j < is.length by omega), Option.getD_some] at e
  exact (List.getElem_inj hd).1 e
theorem drew1 {W w : World} {rs : List Sl.Res} (h : Sl.Sep W w rs) : Sl.Sep W w.drew rs := h.drews 1
theorem mgL_len (l a b : List L5.F) (ha : a.length ≤ 1048576) (hb : b.length ≤ 1048576) : (L5.mgL l a b).length ≤ 1099511627776 := by
  have := L5.len_mgO l a b
  unfold L5.mgL
  split <;> omega
set_option maxRecDepth 100000 in
set_option maxHeartbeats 8000000 in
theorem walk (H : Type) (enc : TypeId × Value → H) (W : World) (base : Nat) (args : Array Value) (ds : List (DataW H)) (p : List MemPlace)
    (hval : ∀ (j : Nat) t v, Try.f7.params[j]? = some t → args[j]? = some v → Value.okWide Try.prog W .any base t v)
    (hA : DataW.TrodAll enc Try.prog W 0 (fun _ => true) true Try.f7.params.toList args.toList ds p)
    (hlt : ∀ x ∈ p, x.block < W.heap.size)
    (hsz : (DataW.weightsEach Try.prog (Try.f7.params.toList ++ Rows.fnExactMergeRecordsSpec.plain.varTypes Try.prog) (ds ++ [])).all (· ≤ reachBytes) = true) :
    Calls Try.prog 7 args W fun e w' => e = .returned (.bool true) ∧ Below W.heap.size W w' := by
  rw [Try.params7] at hA hval hsz
  obtain ⟨v0, vs0, d0, ds0, p0, q0, e0, rfl, rfl, h0, g0⟩ := trodAll_cons hA
  obtain ⟨v1, vs1, d1, ds1, p1, q1, e1, rfl, rfl, h1, g1⟩ := trodAll_cons g0
  obtain ⟨v2, vs2, d2, ds2, p2, q2, e2, rfl, rfl, h2, g2⟩ := trodAll_cons g1
  obtain ⟨ez, rfl, rfl⟩ := trodAll_nil g2
  subst ez
  subst e2
  subst e1
  obtain rfl : args = #[v0, v1, v2] := Array.toList_inj.1 e0
  clear e0
  obtain ⟨a0, l0, c0, rfl, hR0, hW0, M0⟩ := L5.open_record (hval 0 45 v0 rfl rfl) h0 (fun x hx => hlt x (by simp [hx]))
  obtain ⟨a1, l1, c1, rfl, hR1, hW1, M1⟩ := L5.open_record (hval 1 45 v1 rfl rfl) h1 (fun x hx => hlt x (by simp [hx]))
  obtain ⟨a2, l2, c2, rfl, hR2, hW2, M2⟩ := L5.open_record (hval 2 45 v2 rfl rfl) h2 (fun x hx => hlt x (by simp [hx]))
  clear hval hA hlt hsz h0 h1 h2
  have S0 := Sl.Sep.start W
  have S1 := L4.push_box S0 45 #[.slice a0 l0.length c0] (W.heap.size) (by simp)
  clear S0
  have S2 := L4.push_box S1 45 #[.slice a1 l1.length c1] (W.heap.size + 1) (by simp)
  clear S1
  have S3 := L4.push_box S2 45 #[.slice a2 l2.length c2] (W.heap.size + 1 + 1) (by simp)
  clear S2
  go_enter Try.func7, Try.ntmps7
  go_wp2_with fail
  go_at_call 23
  refine (L5.roomRec S3 hR0 1048576 hW0 M0 (by omega) (by omega)).mono ?_
  rintro e w1 ⟨u0, rfl, ro0, hS⟩
  have S4 := hS
  clear hS
  clear S3
  have f0 := (L5.Row.one (L4.box_at S4 0 rfl)).1
  have f1 := (L5.Row.one (L4.box_at S4 1 rfl)).1
  have f2 := (L5.Row.one (L4.box_at S4 2 rfl)).1
  have X0 : -1 ≤ u0 ∧ u0 ≤ 1048576 := ⟨ro0.1, ro0.2.1⟩
  by_cases neg0 : u0 < 0
  · go_wp2_with fail
    go_ret
    exact ⟨rfl, S4.old⟩
  obtain ⟨L0, SM0⟩ := ro0.out neg0 (by omega)
  clear ro0 hW0 M0
  go_wp2_with fail
  go_at_call 23
  refine (L5.roomRec S4 hR1 u0 hW1 M1 (by omega) (by omega)).mono ?_
  rintro e w2 ⟨u1, rfl, ro1, hS⟩
  clear f0 f1 f2
  have S5 := hS
  clear hS
  clear S4
  have f0 := (L5.Row.one (L4.box_at S5 0 rfl)).1
  have f1 := (L5.Row.one (L4.box_at S5 1 rfl)).1
  have f2 := (L5.Row.one (L4.box_at S5 2 rfl)).1
  have X1 : -1 ≤ u1 ∧ u1 ≤ 1048576 := ⟨ro1.1, ro1.2.1⟩
  by_cases neg1 : u1 < 0
  · go_wp2_with fail
    go_ret
    exact ⟨rfl, S5.old⟩
  obtain ⟨L1, SM1⟩ := ro1.out neg1 (by omega)
  clear ro1 hW1 M1
  go_wp2_with fail
  go_at_call 23
  refine (L5.roomRec S5 hR2 u1 hW2 M2 (by omega) (by omega)).mono ?_
  rintro e w3 ⟨u2, rfl, ro2, hS⟩
  clear f0 f1 f2
  have S6 := hS
  clear hS
  clear S5
  have f0 := (L5.Row.one (L4.box_at S6 0 rfl)).1
  have f1 := (L5.Row.one (L4.box_at S6 1 rfl)).1
  have f2 := (L5.Row.one (L4.box_at S6 2 rfl)).1
  have X2 : -1 ≤ u2 ∧ u2 ≤ 1048576 := ⟨ro2.1, ro2.2.1⟩
  by_cases neg2 : u2 < 0
  · go_wp2_with fail
    go_ret
    exact ⟨rfl, S6.old⟩
  obtain ⟨L2, SM2⟩ := ro2.out neg2 (by omega)
  clear ro2 hW2 M2
  obtain ⟨r0, hr0⟩ : ∃ r : List L5.F, r = L5.mgL l0 l1 l2 := ⟨_, rfl⟩
  have RL0 : r0.length ≤ 1099511627776 := by rw [hr0]; exact mgL_len l0 l1 l2 L1 L2
  obtain ⟨r1, hr1⟩ : ∃ r : Bool, r = L5.mgB l0 l1 l2 := ⟨_, rfl⟩
  have Cspec : ∀ (w : World) (a0 : Option Addr) (c0 : Nat) (a1 : Option Addr) (c1 : Nat) (a2 : Option Addr) (c2 : Nat), Sl.Reads w w.heap.size a0 (L5.cellsF l0) → l0.length ≤ c0 → (a0 = none → c0 = 0) → Sl.Reads w w.heap.size a1 (L5.cellsF l1) → l1.length ≤ c1 → (a1 = none → c1 = 0) → Sl.Reads w w.heap.size a2 (L5.cellsF l2) → l2.length ≤ c2 → (a2 = none → c2 = 0) → Calls Try.prog 22 #[.agg #[.slice a0 l0.length c0], .agg #[.slice a1 l1.length c1], .agg #[.slice a2 l2.length c2]] w fun e w' => ∃ ax0 cx0, e = .returned (.tuple #[.agg #[.slice ax0 r0.length cx0], .bool r1]) ∧ Sv.OwnV w' w.heap.size 64 2 ax0 cx0 r0.length (L5.cellsF r0) ∧ Below w.heap.size w w' := by
    rw [hr0, hr1]
    intro w a0 c0 a1 c1 a2 c2 hr0 hc0 hz0 hr1 hc1 hz1 hr2 hc2 hz2
    exact L5.specMergeRecords_any a0 a1 a2 c0 c1 c2 l0 l1 l2 (by omega) (by omega) (by omega) SM0 SM1 SM2 w hr0 hr1 hr2
  have Cimpl : ∀ (w : World) (a0 : Option Addr) (c0 : Nat) (a1 : Option Addr) (c1 : Nat) (a2 : Option Addr) (c2 : Nat), Sl.Reads w w.heap.size a0 (L5.cellsF l0) → l0.length ≤ c0 → (a0 = none → c0 = 0) → Sl.Reads w w.heap.size a1 (L5.cellsF l1) → l1.length ≤ c1 → (a1 = none → c1 = 0) → Sl.Reads w w.heap.size a2 (L5.cellsF l2) → l2.length ≤ c2 → (a2 = none → c2 = 0) → Calls Try.prog 21 #[.agg #[.slice a0 l0.length c0], .agg #[.slice a1 l1.length c1], .agg #[.slice a2 l2.length c2]] w fun e w' => ∃ ax0 cx0, e = .returned (.tuple #[.agg #[.slice ax0 r0.length cx0], .bool r1]) ∧ Sv.OwnV w' w.heap.size 64 2 ax0 cx0 r0.length (L5.cellsF r0) ∧ Below w.heap.size w w' := by
    rw [hr0, hr1]
    intro w a0 c0 a1 c1 a2 c2 hr0 hc0 hz0 hr1 hc1 hz1 hr2 hc2 hz2
    exact L5.mergeRecords_any a0 a1 a2 c0 c1 c2 l0 l1 l2 (by omega) (by omega) (by omega) SM0 SM1 SM2 w hr0 hr1 hr2
  clear hr0 hr1 SM0 SM1 SM2
  replace Cspec := Lib.hid Cspec
  replace Cimpl := Lib.hid Cimpl
  go_upto_region 11 with fail
  go_cut [8, 9] (fun pz q0 wx => ∃ g3' y3 z3, pz = .pointer (some ⟨g3', 0, none⟩) ∧ q0 = .bool r1 ∧ Hid (Sl.Sep W wx [L4.boxR (W.heap.size) 45 #[.slice a0 l0.length c0], L4.boxR (W.heap.size + 1) 45 #[.slice a1 l1.length c1], L4.boxR (W.heap.size + 1 + 1) 45 #[.slice a2 l2.length c2], Sv.ownV 64 2 y3 z3 r0.length (L5.cellsF r0), L4.boxR g3' 26 #[.slice y3 r0.length z3]]))
  case first =>
    refine wp_region_held_drew (S := (fun w' => w'.cell? ⟨W.heap.size, 0, none⟩ = some (.slice a0 l0.length c0) ∧ w'.cell? ⟨W.heap.size + 1, 0, none⟩ = some (.slice a1 l1.length c1) ∧ w'.cell? ⟨W.heap.size + 1 + 1, 0, none⟩ = some (.slice a2 l2.length c2))) (by kernel_rfl) ⟨(L5.Row.one (L4.box_at S6 0 rfl)).1, (L5.Row.one (L4.box_at S6 1 rfl)).1, (L5.Row.one (L4.box_at S6 2 rfl)).1⟩ (fun hS => ?_)
    clear f0 f1 f2
    have SD0 := drew1 S6
    clear S6
    generalize World.drew _ = wd at hS SD0 ⊢
    refine Reg.take_op (i := 0) (v := ?_) rfl (by kernel_rfl) (by kernel_rfl) (by kernel_rfl) (fun _ _ _ h => h) (by rfl) ?_ (by assumption) ?_
    rotate_left
    · (intro w hSw; (try dsimp only at hSw); go_simp; try with_reducible rfl)
    try simp only [Act.put, List.setIfInBounds_toArray, List.set_cons_zero, List.set_cons_succ]
    refine Reg.take_op (i := 2) (v := ?_) rfl (by kernel_rfl) (by kernel_rfl) (by kernel_rfl) (fun _ _ _ h => h) (by rfl) ?_ (by assumption) ?_
    rotate_left
    · (intro w hSw; (try dsimp only at hSw); go_simp; try with_reducible rfl)
    try simp only [Act.put, List.setIfInBounds_toArray, List.set_cons_zero, List.set_cons_succ]
    refine Reg.take_op (i := 4) (v := ?_) rfl (by kernel_rfl) (by kernel_rfl) (by kernel_rfl) (fun _ _ _ h => h) (by rfl) ?_ (by assumption) ?_
    rotate_left
    · (intro w hSw; (try dsimp only at hSw); go_simp; try with_reducible rfl)
    try simp only [Act.put, List.setIfInBounds_toArray, List.set_cons_zero, List.set_cons_succ]
    refine wpAnyH_ready (rs := [1, 10]) (by kernel_rfl) (by simp) ?_
    refine Reg.cons_op (i := 1) rfl (fun K hK => ?_) ?_
    · go_simp
      go_at_call 24
      refine (L5.copyRec SD0 hR0 (by omega)).mono ?_
      rintro e wq1 ⟨yc0, zc0, rfl, hS⟩
      have SD1 := hS
      clear hS
      go_wp2_with fail
      refine hK.out _ _ ⟨(L5.Row.one (L4.box_at SD1 0 rfl)).1, (L5.Row.one (L4.box_at SD1 1 rfl)).1, (L5.Row.one (L4.box_at SD1 2 rfl)).1⟩ (fun hS => ?_)
      clear hK K
      try simp only [Act.put, List.setIfInBounds_toArray, List.set_cons_zero, List.set_cons_succ]
      refine wpAnyH_ready (rs := [3, 10]) (by kernel_rfl) (by simp) ?_
      refine Reg.cons_op (i := 3) rfl (fun K hK => ?_) ?_
      · go_simp
        go_at_call 24
        refine (L5.copyRec SD1 hR1 (by omega)).mono ?_
        rintro e wq2 ⟨yc1, zc1, rfl, hS⟩
        have SD2 := hS
        clear hS
        go_wp2_with fail
        refine hK.out _ _ ⟨(L5.Row.one (L4.box_at SD2 0 rfl)).1, (L5.Row.one (L4.box_at SD2 1 rfl)).1, (L5.Row.one (L4.box_at SD2 2 rfl)).1⟩ (fun hS => ?_)
        clear hK K
        try simp only [Act.put, List.setIfInBounds_toArray, List.set_cons_zero, List.set_cons_succ]
        refine wpAnyH_ready (rs := [5, 10]) (by kernel_rfl) (by simp) ?_
        refine Reg.cons_op (i := 5) rfl (fun K hK => ?_) ?_
        · go_simp
          go_at_call 24
          refine (L5.copyRec SD2 hR2 (by omega)).mono ?_
          rintro e wq3 ⟨yc2, zc2, rfl, hS⟩
          have SD3 := hS
          clear hS
          go_wp2_with fail
          refine hK.out _ _ ⟨(L5.Row.one (L4.box_at SD3 0 rfl)).1, (L5.Row.one (L4.box_at SD3 1 rfl)).1, (L5.Row.one (L4.box_at SD3 2 rfl)).1⟩ (fun hS => ?_)
          clear hK K
          try simp only [Act.put, List.setIfInBounds_toArray, List.set_cons_zero, List.set_cons_succ]
          refine wpAnyH_ready (rs := [6, 10]) (by kernel_rfl) (by simp) ?_
          refine Reg.cons_op (i := 6) rfl (fun K hK => ?_) ?_
          · go_simp
            go_at_call 22
            refine (Cspec.out _ _ _ _ _ _ _ (Sv.own_at SD3 3 rfl).reads (Sv.own_at SD3 3 rfl).cap (L5.own_zero (Sv.own_at SD3 3 rfl)) (Sv.own_at SD3 4 rfl).reads (Sv.own_at SD3 4 rfl).cap (L5.own_zero (Sv.own_at SD3 4 rfl)) (Sv.own_at SD3 5 rfl).reads (Sv.own_at SD3 5 rfl).cap (L5.own_zero (Sv.own_at SD3 5 rfl))).mono ?_
            rintro e wq4 ⟨y3, z3, rfl, ho, hb⟩
            have SD4 := Sv.push_own SD3 hb ho
            clear hb ho
            go_wp2_with fail
            refine hK.out _ _ ⟨(L5.Row.one (L4.box_at SD4 0 rfl)).1, (L5.Row.one (L4.box_at SD4 1 rfl)).1, (L5.Row.one (L4.box_at SD4 2 rfl)).1⟩ (fun hS => ?_)
            clear hK K
            try simp only [Act.put, List.setIfInBounds_toArray, List.set_cons_zero, List.set_cons_succ]
            refine Reg.take_op (i := 7) (v := ?_) rfl (by kernel_rfl) (by kernel_rfl) (by kernel_rfl) (fun _ _ _ h => h) (by rfl) ?_ (by assumption) ?_
            rotate_left
            · (intro w hSw; (try dsimp only at hSw); go_simp; try with_reducible rfl)
            try simp only [Act.put, List.setIfInBounds_toArray, List.set_cons_zero, List.set_cons_succ]
            refine Reg.take_op (i := 8) (v := ?_) rfl (by kernel_rfl) (by kernel_rfl) (by kernel_rfl) (fun _ _ _ h => h) (by rfl) ?_ (by assumption) ?_
            rotate_left
            · (intro w hSw; (try dsimp only at hSw); go_simp; try with_reducible rfl)
            try simp only [Act.put, List.setIfInBounds_toArray, List.set_cons_zero, List.set_cons_succ]
            refine Reg.take_op (i := 9) (v := ?_) rfl (by kernel_rfl) (by kernel_rfl) (by kernel_rfl) (fun _ _ _ h => h) (by rfl) ?_ (by assumption) ?_
            rotate_left
            · (intro w hSw; (try dsimp only at hSw); go_simp; try with_reducible rfl)
            try simp only [Act.put, List.setIfInBounds_toArray, List.set_cons_zero, List.set_cons_succ]
            refine Reg.one_op (i := 10) rfl (by kernel_rfl) (fun K hK => ?_)
            go_simp
            have SD5 := L4.push_box SD4 26 #[.slice none 0 0] wq4.heap.size rfl
            obtain ⟨g2, hg2⟩ : ∃ g2, g2 = wq4.heap.size := ⟨_, rfl⟩
            rw [← hg2] at SD5 ⊢
            clear hg2
            generalize wq4.alloc (.cells #[.slice none 0 0] 26) = wq5 at SD5 ⊢
            refine hK.out _ _ ⟨(L5.Row.one (L4.box_at SD5 0 rfl)).1, (L5.Row.one (L4.box_at SD5 1 rfl)).1, (L5.Row.one (L4.box_at SD5 2 rfl)).1⟩ (fun hS => ?_)
            clear hK K
            try simp only [Act.put, List.setIfInBounds_toArray, List.set_cons_zero, List.set_cons_succ]
            refine Reg.one_op (i := 11) rfl (by kernel_rfl) (fun K hK => ?_)
            go_simp
            obtain ⟨z0, z1⟩ := L5.Row.one (L4.box_at SD5 7 rfl)
            have SD6 := L5.put_box5 SD5 7 rfl 0 (.slice y3 r0.length z3)
            go_simp
            refine hK.out _ _ ⟨(L5.Row.one (L4.box_at SD6 0 rfl)).1, (L5.Row.one (L4.box_at SD6 1 rfl)).1, (L5.Row.one (L4.box_at SD6 2 rfl)).1⟩ (fun hS => ?_)
            clear hK K
            try simp only [Act.put, List.setIfInBounds_toArray, List.set_cons_zero, List.set_cons_succ]
            refine Reg.take_op (i := 12) (v := ?_) rfl (by kernel_rfl) (by kernel_rfl) (by kernel_rfl) (fun _ _ _ h => h) (by rfl) ?_ (by assumption) ?_
            rotate_left
            · (intro w hSw; (try dsimp only at hSw); go_simp; try with_reducible rfl)
            try simp only [Act.put, List.setIfInBounds_toArray, List.set_cons_zero, List.set_cons_succ]
            refine wpAnyH_done (by kernel_rfl) ?_ _
            go_wp2_with fail
            go_meet
            case rel =>
              refine ⟨g2, y3, z3, rfl, rfl, ?_⟩
              exact sep_take SD6 [0, 1, 2, 6, 7] (by rfl) (by decide)
          refine Reg.cons_op (i := 10) rfl (fun K hK => ?_) ?_
          · go_simp
            have SD4 := L4.push_box SD3 26 #[.slice none 0 0] wq3.heap.size rfl
            obtain ⟨g2, hg2⟩ : ∃ g2, g2 = wq3.heap.size := ⟨_, rfl⟩
            rw [← hg2] at SD4 ⊢
            clear hg2
            generalize wq3.alloc (.cells #[.slice none 0 0] 26) = wq4 at SD4 ⊢
            refine hK.out _ _ ⟨(L5.Row.one (L4.box_at SD4 0 rfl)).1, (L5.Row.one (L4.box_at SD4 1 rfl)).1, (L5.Row.one (L4.box_at SD4 2 rfl)).1⟩ (fun hS => ?_)
            clear hK K
            try simp only [Act.put, List.setIfInBounds_toArray, List.set_cons_zero, List.set_cons_succ]
            refine Reg.one_op (i := 6) rfl (by kernel_rfl) (fun K hK => ?_)
            go_simp
            go_at_call 22
            refine (Cspec.out _ _ _ _ _ _ _ (Sv.own_at SD4 3 rfl).reads (Sv.own_at SD4 3 rfl).cap (L5.own_zero (Sv.own_at SD4 3 rfl)) (Sv.own_at SD4 4 rfl).reads (Sv.own_at SD4 4 rfl).cap (L5.own_zero (Sv.own_at SD4 4 rfl)) (Sv.own_at SD4 5 rfl).reads (Sv.own_at SD4 5 rfl).cap (L5.own_zero (Sv.own_at SD4 5 rfl))).mono ?_
            rintro e wq5 ⟨y3, z3, rfl, ho, hb⟩
            have SD5 := Sv.push_own SD4 hb ho
            clear hb ho
            go_wp2_with fail
            refine hK.out _ _ ⟨(L5.Row.one (L4.box_at SD5 0 rfl)).1, (L5.Row.one (L4.box_at SD5 1 rfl)).1, (L5.Row.one (L4.box_at SD5 2 rfl)).1⟩ (fun hS => ?_)
            clear hK K
            try simp only [Act.put, List.setIfInBounds_toArray, List.set_cons_zero, List.set_cons_succ]
            refine Reg.take_op (i := 7) (v := ?_) rfl (by kernel_rfl) (by kernel_rfl) (by kernel_rfl) (fun _ _ _ h => h) (by rfl) ?_ (by assumption) ?_
            rotate_left
            · (intro w hSw; (try dsimp only at hSw); go_simp; try with_reducible rfl)
            try simp only [Act.put, List.setIfInBounds_toArray, List.set_cons_zero, List.set_cons_succ]
            refine Reg.take_op (i := 8) (v := ?_) rfl (by kernel_rfl) (by kernel_rfl) (by kernel_rfl) (fun _ _ _ h => h) (by rfl) ?_ (by assumption) ?_
            rotate_left
            · (intro w hSw; (try dsimp only at hSw); go_simp; try with_reducible rfl)
            try simp only [Act.put, List.setIfInBounds_toArray, List.set_cons_zero, List.set_cons_succ]
            refine Reg.take_op (i := 9) (v := ?_) rfl (by kernel_rfl) (by kernel_rfl) (by kernel_rfl) (fun _ _ _ h => h) (by rfl) ?_ (by assumption) ?_
            rotate_left
            · (intro w hSw; (try dsimp only at hSw); go_simp; try with_reducible rfl)
            try simp only [Act.put, List.setIfInBounds_toArray, List.set_cons_zero, List.set_cons_succ]
            refine Reg.one_op (i := 11) rfl (by kernel_rfl) (fun K hK => ?_)
            go_simp
            obtain ⟨z0, z1⟩ := L5.Row.one (L4.box_at SD5 6 rfl)
            have SD6 := L5.put_box5 SD5 6 rfl 0 (.slice y3 r0.length z3)
            go_simp
            refine hK.out _ _ ⟨(L5.Row.one (L4.box_at SD6 0 rfl)).1, (L5.Row.one (L4.box_at SD6 1 rfl)).1, (L5.Row.one (L4.box_at SD6 2 rfl)).1⟩ (fun hS => ?_)
            clear hK K
            try simp only [Act.put, List.setIfInBounds_toArray, List.set_cons_zero, List.set_cons_succ]
            refine Reg.take_op (i := 12) (v := ?_) rfl (by kernel_rfl) (by kernel_rfl) (by kernel_rfl) (fun _ _ _ h => h) (by rfl) ?_ (by assumption) ?_
            rotate_left
            · (intro w hSw; (try dsimp only at hSw); go_simp; try with_reducible rfl)
            try simp only [Act.put, List.setIfInBounds_toArray, List.set_cons_zero, List.set_cons_succ]
            refine wpAnyH_done (by kernel_rfl) ?_ _
            go_wp2_with fail
            go_meet
            case rel =>
              refine ⟨g2, y3, z3, rfl, rfl, ?_⟩
              exact sep_take SD6 [0, 1, 2, 7, 6] (by rfl) (by decide)
          exact AllReadyH.nil
        refine Reg.cons_op (i := 10) rfl (fun K hK => ?_) ?_
        · go_simp
          have SD3 := L4.push_box SD2 26 #[.slice none 0 0] wq2.heap.size rfl
          obtain ⟨g2, hg2⟩ : ∃ g2, g2 = wq2.heap.size := ⟨_, rfl⟩
          rw [← hg2] at SD3 ⊢
          clear hg2
          generalize wq2.alloc (.cells #[.slice none 0 0] 26) = wq3 at SD3 ⊢
          refine hK.out _ _ ⟨(L5.Row.one (L4.box_at SD3 0 rfl)).1, (L5.Row.one (L4.box_at SD3 1 rfl)).1, (L5.Row.one (L4.box_at SD3 2 rfl)).1⟩ (fun hS => ?_)
          clear hK K
          try simp only [Act.put, List.setIfInBounds_toArray, List.set_cons_zero, List.set_cons_succ]
          refine Reg.one_op (i := 5) rfl (by kernel_rfl) (fun K hK => ?_)
          go_simp
          go_at_call 24
          refine (L5.copyRec SD3 hR2 (by omega)).mono ?_
          rintro e wq4 ⟨yc2, zc2, rfl, hS⟩
          have SD4 := hS
          clear hS
          go_wp2_with fail
          refine hK.out _ _ ⟨(L5.Row.one (L4.box_at SD4 0 rfl)).1, (L5.Row.one (L4.box_at SD4 1 rfl)).1, (L5.Row.one (L4.box_at SD4 2 rfl)).1⟩ (fun hS => ?_)
          clear hK K
          try simp only [Act.put, List.setIfInBounds_toArray, List.set_cons_zero, List.set_cons_succ]
          refine Reg.one_op (i := 6) rfl (by kernel_rfl) (fun K hK => ?_)
          go_simp
          go_at_call 22
          refine (Cspec.out _ _ _ _ _ _ _ (Sv.own_at SD4 3 rfl).reads (Sv.own_at SD4 3 rfl).cap (L5.own_zero (Sv.own_at SD4 3 rfl)) (Sv.own_at SD4 4 rfl).reads (Sv.own_at SD4 4 rfl).cap (L5.own_zero (Sv.own_at SD4 4 rfl)) (Sv.own_at SD4 6 rfl).reads (Sv.own_at SD4 6 rfl).cap (L5.own_zero (Sv.own_at SD4 6 rfl))).mono ?_
          rintro e wq5 ⟨y3, z3, rfl, ho, hb⟩
          have SD5 := Sv.push_own SD4 hb ho
          clear hb ho
          go_wp2_with fail
          refine hK.out _ _ ⟨(L5.Row.one (L4.box_at SD5 0 rfl)).1, (L5.Row.one (L4.box_at SD5 1 rfl)).1, (L5.Row.one (L4.box_at SD5 2 rfl)).1⟩ (fun hS => ?_)
          clear hK K
          try simp only [Act.put, List.setIfInBounds_toArray, List.set_cons_zero, List.set_cons_succ]
          refine Reg.take_op (i := 7) (v := ?_) rfl (by kernel_rfl) (by kernel_rfl) (by kernel_rfl) (fun _ _ _ h => h) (by rfl) ?_ (by assumption) ?_
          rotate_left
          · (intro w hSw; (try dsimp only at hSw); go_simp; try with_reducible rfl)
          try simp only [Act.put, List.setIfInBounds_toArray, List.set_cons_zero, List.set_cons_succ]
          refine Reg.take_op (i := 8) (v := ?_) rfl (by kernel_rfl) (by kernel_rfl) (by kernel_rfl) (fun _ _ _ h => h) (by rfl) ?_ (by assumption) ?_
          rotate_left
          · (intro w hSw; (try dsimp only at hSw); go_simp; try with_reducible rfl)
          try simp only [Act.put, List.setIfInBounds_toArray, List.set_cons_zero, List.set_cons_succ]
          refine Reg.take_op (i := 9) (v := ?_) rfl (by kernel_rfl) (by kernel_rfl) (by kernel_rfl) (fun _ _ _ h => h) (by rfl) ?_ (by assumption) ?_
          rotate_left
          · (intro w hSw; (try dsimp only at hSw); go_simp; try with_reducible rfl)
          try simp only [Act.put, List.setIfInBounds_toArray, List.set_cons_zero, List.set_cons_succ]
          refine Reg.one_op (i := 11) rfl (by kernel_rfl) (fun K hK => ?_)
          go_simp
          obtain ⟨z0, z1⟩ := L5.Row.one (L4.box_at SD5 5 rfl)
          have SD6 := L5.put_box5 SD5 5 rfl 0 (.slice y3 r0.length z3)
          go_simp
          refine hK.out _ _ ⟨(L5.Row.one (L4.box_at SD6 0 rfl)).1, (L5.Row.one (L4.box_at SD6 1 rfl)).1, (L5.Row.one (L4.box_at SD6 2 rfl)).1⟩ (fun hS => ?_)
          clear hK K
          try simp only [Act.put, List.setIfInBounds_toArray, List.set_cons_zero, List.set_cons_succ]
          refine Reg.take_op (i := 12) (v := ?_) rfl (by kernel_rfl) (by kernel_rfl) (by kernel_rfl) (fun _ _ _ h => h) (by rfl) ?_ (by assumption) ?_
          rotate_left
          · (intro w hSw; (try dsimp only at hSw); go_simp; try with_reducible rfl)
          try simp only [Act.put, List.setIfInBounds_toArray, List.set_cons_zero, List.set_cons_succ]
          refine wpAnyH_done (by kernel_rfl) ?_ _
          go_wp2_with fail
          go_meet
          case rel =>
            refine ⟨g2, y3, z3, rfl, rfl, ?_⟩
            exact sep_take SD6 [0, 1, 2, 7, 5] (by rfl) (by decide)
        exact AllReadyH.nil
      refine Reg.cons_op (i := 10) rfl (fun K hK => ?_) ?_
      · go_simp
        have SD2 := L4.push_box SD1 26 #[.slice none 0 0] wq1.heap.size rfl
        obtain ⟨g2, hg2⟩ : ∃ g2, g2 = wq1.heap.size := ⟨_, rfl⟩
        rw [← hg2] at SD2 ⊢
        clear hg2
        generalize wq1.alloc (.cells #[.slice none 0 0] 26) = wq2 at SD2 ⊢
        refine hK.out _ _ ⟨(L5.Row.one (L4.box_at SD2 0 rfl)).1, (L5.Row.one (L4.box_at SD2 1 rfl)).1, (L5.Row.one (L4.box_at SD2 2 rfl)).1⟩ (fun hS => ?_)
        clear hK K
        try simp only [Act.put, List.setIfInBounds_toArray, List.set_cons_zero, List.set_cons_succ]
        refine Reg.one_op (i := 3) rfl (by kernel_rfl) (fun K hK => ?_)
        go_simp
        go_at_call 24
        refine (L5.copyRec SD2 hR1 (by omega)).mono ?_
        rintro e wq3 ⟨yc1, zc1, rfl, hS⟩
        have SD3 := hS
        clear hS
        go_wp2_with fail
        refine hK.out _ _ ⟨(L5.Row.one (L4.box_at SD3 0 rfl)).1, (L5.Row.one (L4.box_at SD3 1 rfl)).1, (L5.Row.one (L4.box_at SD3 2 rfl)).1⟩ (fun hS => ?_)
        clear hK K
        try simp only [Act.put, List.setIfInBounds_toArray, List.set_cons_zero, List.set_cons_succ]
        refine Reg.one_op (i := 5) rfl (by kernel_rfl) (fun K hK => ?_)
        go_simp
        go_at_call 24
        refine (L5.copyRec SD3 hR2 (by omega)).mono ?_
        rintro e wq4 ⟨yc2, zc2, rfl, hS⟩
        have SD4 := hS
        clear hS
        go_wp2_with fail
        refine hK.out _ _ ⟨(L5.Row.one (L4.box_at SD4 0 rfl)).1, (L5.Row.one (L4.box_at SD4 1 rfl)).1, (L5.Row.one (L4.box_at SD4 2 rfl)).1⟩ (fun hS => ?_)
        clear hK K
        try simp only [Act.put, List.setIfInBounds_toArray, List.set_cons_zero, List.set_cons_succ]
        refine Reg.one_op (i := 6) rfl (by kernel_rfl) (fun K hK => ?_)
        go_simp
        go_at_call 22
        refine (Cspec.out _ _ _ _ _ _ _ (Sv.own_at SD4 3 rfl).reads (Sv.own_at SD4 3 rfl).cap (L5.own_zero (Sv.own_at SD4 3 rfl)) (Sv.own_at SD4 5 rfl).reads (Sv.own_at SD4 5 rfl).cap (L5.own_zero (Sv.own_at SD4 5 rfl)) (Sv.own_at SD4 6 rfl).reads (Sv.own_at SD4 6 rfl).cap (L5.own_zero (Sv.own_at SD4 6 rfl))).mono ?_
        rintro e wq5 ⟨y3, z3, rfl, ho, hb⟩
        have SD5 := Sv.push_own SD4 hb ho
        clear hb ho
        go_wp2_with fail
        refine hK.out _ _ ⟨(L5.Row.one (L4.box_at SD5 0 rfl)).1, (L5.Row.one (L4.box_at SD5 1 rfl)).1, (L5.Row.one (L4.box_at SD5 2 rfl)).1⟩ (fun hS => ?_)
        clear hK K
        try simp only [Act.put, List.setIfInBounds_toArray, List.set_cons_zero, List.set_cons_succ]
        refine Reg.take_op (i := 7) (v := ?_) rfl (by kernel_rfl) (by kernel_rfl) (by kernel_rfl) (fun _ _ _ h => h) (by rfl) ?_ (by assumption) ?_
        rotate_left
        · (intro w hSw; (try dsimp only at hSw); go_simp; try with_reducible rfl)
        try simp only [Act.put, List.setIfInBounds_toArray, List.set_cons_zero, List.set_cons_succ]
        refine Reg.take_op (i := 8) (v := ?_) rfl (by kernel_rfl) (by kernel_rfl) (by kernel_rfl) (fun _ _ _ h => h) (by rfl) ?_ (by assumption) ?_
        rotate_left
        · (intro w hSw; (try dsimp only at hSw); go_simp; try with_reducible rfl)
        try simp only [Act.put, List.setIfInBounds_toArray, List.set_cons_zero, List.set_cons_succ]
        refine Reg.take_op (i := 9) (v := ?_) rfl (by kernel_rfl) (by kernel_rfl) (by kernel_rfl) (fun _ _ _ h => h) (by rfl) ?_ (by assumption) ?_
        rotate_left
        · (intro w hSw; (try dsimp only at hSw); go_simp; try with_reducible rfl)
        try simp only [Act.put, List.setIfInBounds_toArray, List.set_cons_zero, List.set_cons_succ]
        refine Reg.one_op (i := 11) rfl (by kernel_rfl) (fun K hK => ?_)
        go_simp
        obtain ⟨z0, z1⟩ := L5.Row.one (L4.box_at SD5 4 rfl)
        have SD6 := L5.put_box5 SD5 4 rfl 0 (.slice y3 r0.length z3)
        go_simp
        refine hK.out _ _ ⟨(L5.Row.one (L4.box_at SD6 0 rfl)).1, (L5.Row.one (L4.box_at SD6 1 rfl)).1, (L5.Row.one (L4.box_at SD6 2 rfl)).1⟩ (fun hS => ?_)
        clear hK K
        try simp only [Act.put, List.setIfInBounds_toArray, List.set_cons_zero, List.set_cons_succ]
        refine Reg.take_op (i := 12) (v := ?_) rfl (by kernel_rfl) (by kernel_rfl) (by kernel_rfl) (fun _ _ _ h => h) (by rfl) ?_ (by assumption) ?_
        rotate_left
        · (intro w hSw; (try dsimp only at hSw); go_simp; try with_reducible rfl)
        try simp only [Act.put, List.setIfInBounds_toArray, List.set_cons_zero, List.set_cons_succ]
        refine wpAnyH_done (by kernel_rfl) ?_ _
        go_wp2_with fail
        go_meet
        case rel =>
          refine ⟨g2, y3, z3, rfl, rfl, ?_⟩
          exact sep_take SD6 [0, 1, 2, 7, 4] (by rfl) (by decide)
      exact AllReadyH.nil
    refine Reg.cons_op (i := 10) rfl (fun K hK => ?_) ?_
    · go_simp
      have SD1 := L4.push_box SD0 26 #[.slice none 0 0] wd.heap.size rfl
      obtain ⟨g2, hg2⟩ : ∃ g2, g2 = wd.heap.size := ⟨_, rfl⟩
      rw [← hg2] at SD1 ⊢
      clear hg2
      generalize wd.alloc (.cells #[.slice none 0 0] 26) = wq1 at SD1 ⊢
      refine hK.out _ _ ⟨(L5.Row.one (L4.box_at SD1 0 rfl)).1, (L5.Row.one (L4.box_at SD1 1 rfl)).1, (L5.Row.one (L4.box_at SD1 2 rfl)).1⟩ (fun hS => ?_)
      clear hK K
      try simp only [Act.put, List.setIfInBounds_toArray, List.set_cons_zero, List.set_cons_succ]
      refine Reg.one_op (i := 1) rfl (by kernel_rfl) (fun K hK => ?_)
      go_simp
      go_at_call 24
      refine (L5.copyRec SD1 hR0 (by omega)).mono ?_
      rintro e wq2 ⟨yc0, zc0, rfl, hS⟩
      have SD2 := hS
      clear hS
      go_wp2_with fail
      refine hK.out _ _ ⟨(L5.Row.one (L4.box_at SD2 0 rfl)).1, (L5.Row.one (L4.box_at SD2 1 rfl)).1, (L5.Row.one (L4.box_at SD2 2 rfl)).1⟩ (fun hS => ?_)
      clear hK K
      try simp only [Act.put, List.setIfInBounds_toArray, List.set_cons_zero, List.set_cons_succ]
      refine Reg.one_op (i := 3) rfl (by kernel_rfl) (fun K hK => ?_)
      go_simp
      go_at_call 24
      refine (L5.copyRec SD2 hR1 (by omega)).mono ?_
      rintro e wq3 ⟨yc1, zc1, rfl, hS⟩
      have SD3 := hS
      clear hS
      go_wp2_with fail
      refine hK.out _ _ ⟨(L5.Row.one (L4.box_at SD3 0 rfl)).1, (L5.Row.one (L4.box_at SD3 1 rfl)).1, (L5.Row.one (L4.box_at SD3 2 rfl)).1⟩ (fun hS => ?_)
      clear hK K
      try simp only [Act.put, List.setIfInBounds_toArray, List.set_cons_zero, List.set_cons_succ]
      refine Reg.one_op (i := 5) rfl (by kernel_rfl) (fun K hK => ?_)
      go_simp
      go_at_call 24
      refine (L5.copyRec SD3 hR2 (by omega)).mono ?_
      rintro e wq4 ⟨yc2, zc2, rfl, hS⟩
      have SD4 := hS
      clear hS
      go_wp2_with fail
      refine hK.out _ _ ⟨(L5.Row.one (L4.box_at SD4 0 rfl)).1, (L5.Row.one (L4.box_at SD4 1 rfl)).1, (L5.Row.one (L4.box_at SD4 2 rfl)).1⟩ (fun hS => ?_)
      clear hK K
      try simp only [Act.put, List.setIfInBounds_toArray, List.set_cons_zero, List.set_cons_succ]
      refine Reg.one_op (i := 6) rfl (by kernel_rfl) (fun K hK => ?_)
      go_simp
      go_at_call 22
      refine (Cspec.out _ _ _ _ _ _ _ (Sv.own_at SD4 4 rfl).reads (Sv.own_at SD4 4 rfl).cap (L5.own_zero (Sv.own_at SD4 4 rfl)) (Sv.own_at SD4 5 rfl).reads (Sv.own_at SD4 5 rfl).cap (L5.own_zero (Sv.own_at SD4 5 rfl)) (Sv.own_at SD4 6 rfl).reads (Sv.own_at SD4 6 rfl).cap (L5.own_zero (Sv.own_at SD4 6 rfl))).mono ?_
      rintro e wq5 ⟨y3, z3, rfl, ho, hb⟩
      have SD5 := Sv.push_own SD4 hb ho
      clear hb ho
      go_wp2_with fail
      refine hK.out _ _ ⟨(L5.Row.one (L4.box_at SD5 0 rfl)).1, (L5.Row.one (L4.box_at SD5 1 rfl)).1, (L5.Row.one (L4.box_at SD5 2 rfl)).1⟩ (fun hS => ?_)
      clear hK K
      try simp only [Act.put, List.setIfInBounds_toArray, List.set_cons_zero, List.set_cons_succ]
      refine Reg.take_op (i := 7) (v := ?_) rfl (by kernel_rfl) (by kernel_rfl) (by kernel_rfl) (fun _ _ _ h => h) (by rfl) ?_ (by assumption) ?_
      rotate_left
      · (intro w hSw; (try dsimp only at hSw); go_simp; try with_reducible rfl)
      try simp only [Act.put, List.setIfInBounds_toArray, List.set_cons_zero, List.set_cons_succ]
      refine Reg.take_op (i := 8) (v := ?_) rfl (by kernel_rfl) (by kernel_rfl) (by kernel_rfl) (fun _ _ _ h => h) (by rfl) ?_ (by assumption) ?_
      rotate_left
      · (intro w hSw; (try dsimp only at hSw); go_simp; try with_reducible rfl)
      try simp only [Act.put, List.setIfInBounds_toArray, List.set_cons_zero, List.set_cons_succ]
      refine Reg.take_op (i := 9) (v := ?_) rfl (by kernel_rfl) (by kernel_rfl) (by kernel_rfl) (fun _ _ _ h => h) (by rfl) ?_ (by assumption) ?_
      rotate_left
      · (intro w hSw; (try dsimp only at hSw); go_simp; try with_reducible rfl)
      try simp only [Act.put, List.setIfInBounds_toArray, List.set_cons_zero, List.set_cons_succ]
      refine Reg.one_op (i := 11) rfl (by kernel_rfl) (fun K hK => ?_)
      go_simp
      obtain ⟨z0, z1⟩ := L5.Row.one (L4.box_at SD5 3 rfl)
      have SD6 := L5.put_box5 SD5 3 rfl 0 (.slice y3 r0.length z3)
      go_simp
      refine hK.out _ _ ⟨(L5.Row.one (L4.box_at SD6 0 rfl)).1, (L5.Row.one (L4.box_at SD6 1 rfl)).1, (L5.Row.one (L4.box_at SD6 2 rfl)).1⟩ (fun hS => ?_)
      clear hK K
      try simp only [Act.put, List.setIfInBounds_toArray, List.set_cons_zero, List.set_cons_succ]
      refine Reg.take_op (i := 12) (v := ?_) rfl (by kernel_rfl) (by kernel_rfl) (by kernel_rfl) (fun _ _ _ h => h) (by rfl) ?_ (by assumption) ?_
      rotate_left
      · (intro w hSw; (try dsimp only at hSw); go_simp; try with_reducible rfl)
      try simp only [Act.put, List.setIfInBounds_toArray, List.set_cons_zero, List.set_cons_succ]
      refine wpAnyH_done (by kernel_rfl) ?_ _
      go_wp2_with fail
      go_meet
      case rel =>
        refine ⟨g2, y3, z3, rfl, rfl, ?_⟩
        exact sep_take SD6 [0, 1, 2, 7, 3] (by rfl) (by decide)
    exact AllReadyH.nil
  case rest =>
    obtain ⟨g3', y3, z3, rfl, rfl, hq⟩ := hcut
    have S7 := hq.out
    clear hq S6
    clear f0 f1 f2
    have f0 := (L5.Row.one (L4.box_at S7 0 rfl)).1
    have f1 := (L5.Row.one (L4.box_at S7 1 rfl)).1
    have f2 := (L5.Row.one (L4.box_at S7 2 rfl)).1
    have f4 := (L5.Row.one (L4.box_at S7 4 rfl)).1
    go_wp2_with fail
    go_at_call 24
    refine (L5.copyRec S7 hR0 (by omega)).mono ?_
    rintro e w4 ⟨y4, z4, rfl, hS⟩
    clear f0 f1 f2 f4
    have S8 := hS
    clear hS
    clear S7
    have f0 := (L5.Row.one (L4.box_at S8 0 rfl)).1
    have f1 := (L5.Row.one (L4.box_at S8 1 rfl)).1
    have f2 := (L5.Row.one (L4.box_at S8 2 rfl)).1
    have f4 := (L5.Row.one (L4.box_at S8 4 rfl)).1
    have S9 : Sl.Sep W _ [L4.boxR (W.heap.size) 45 #[.slice a0 l0.length c0], L4.boxR (W.heap.size + 1) 45 #[.slice a1 l1.length c1], L4.boxR (W.heap.size + 1 + 1) 45 #[.slice a2 l2.length c2], Sv.ownV 64 2 y3 z3 r0.length (L5.cellsF r0), L4.boxR g3' 26 #[.slice y3 r0.length z3], Sv.ownV 64 2 y4 z4 l0.length (L5.cellsF l0)] := S8
    clear S8
    clear f0 f1 f2 f4
    have S10 := L4.push_box S9 26 #[.slice y4 l0.length z4] _ rfl
    clear S9
    have f0 := (L5.Row.one (L4.box_at S10 0 rfl)).1
    have f1 := (L5.Row.one (L4.box_at S10 1 rfl)).1
    have f2 := (L5.Row.one (L4.box_at S10 2 rfl)).1
    have f4 := (L5.Row.one (L4.box_at S10 4 rfl)).1
    have f6 := (L5.Row.one (L4.box_at S10 6 rfl)).1
    have S11 : Sl.Sep W _ [L4.boxR (W.heap.size) 45 #[.slice a0 l0.length c0], L4.boxR (W.heap.size + 1) 45 #[.slice a1 l1.length c1], L4.boxR (W.heap.size + 1 + 1) 45 #[.slice a2 l2.length c2], Sv.ownV 64 2 y3 z3 r0.length (L5.cellsF r0), L4.boxR g3' 26 #[.slice y3 r0.length z3], Sv.ownV 64 2 y4 z4 l0.length (L5.cellsF l0), L4.boxR w4.heap.size 26 #[.slice y4 l0.length z4]] := S10
    clear S10
    go_wp2_with fail
    go_at_call 24
    refine (L5.copyRec S11 hR1 (by omega)).mono ?_
    rintro e w5 ⟨y5, z5, rfl, hS⟩
    clear f0 f1 f2 f4 f6
    have S12 := hS
    clear hS
    clear S11
    have f0 := (L5.Row.one (L4.box_at S12 0 rfl)).1
    have f1 := (L5.Row.one (L4.box_at S12 1 rfl)).1
    have f2 := (L5.Row.one (L4.box_at S12 2 rfl)).1
    have f4 := (L5.Row.one (L4.box_at S12 4 rfl)).1
    have f6 := (L5.Row.one (L4.box_at S12 6 rfl)).1
    have S13 : Sl.Sep W _ [L4.boxR (W.heap.size) 45 #[.slice a0 l0.length c0], L4.boxR (W.heap.size + 1) 45 #[.slice a1 l1.length c1], L4.boxR (W.heap.size + 1 + 1) 45 #[.slice a2 l2.length c2], Sv.ownV 64 2 y3 z3 r0.length (L5.cellsF r0), L4.boxR g3' 26 #[.slice y3 r0.length z3], Sv.ownV 64 2 y4 z4 l0.length (L5.cellsF l0), L4.boxR w4.heap.size 26 #[.slice y4 l0.length z4], Sv.ownV 64 2 y5 z5 l1.length (L5.cellsF l1)] := S12
    clear S12
    clear f0 f1 f2 f4 f6
    have S14 := L4.push_box S13 26 #[.slice y5 l1.length z5] _ rfl
    clear S13
    have f0 := (L5.Row.one (L4.box_at S14 0 rfl)).1
    have f1 := (L5.Row.one (L4.box_at S14 1 rfl)).1
    have f2 := (L5.Row.one (L4.box_at S14 2 rfl)).1
    have f4 := (L5.Row.one (L4.box_at S14 4 rfl)).1
    have f6 := (L5.Row.one (L4.box_at S14 6 rfl)).1
    have f8 := (L5.Row.one (L4.box_at S14 8 rfl)).1
    have S15 : Sl.Sep W _ [L4.boxR (W.heap.size) 45 #[.slice a0 l0.length c0], L4.boxR (W.heap.size + 1) 45 #[.slice a1 l1.length c1], L4.boxR (W.heap.size + 1 + 1) 45 #[.slice a2 l2.length c2], Sv.ownV 64 2 y3 z3 r0.length (L5.cellsF r0), L4.boxR g3' 26 #[.slice y3 r0.length z3], Sv.ownV 64 2 y4 z4 l0.length (L5.cellsF l0), L4.boxR w4.heap.size 26 #[.slice y4 l0.length z4], Sv.ownV 64 2 y5 z5 l1.length (L5.cellsF l1), L4.boxR w5.heap.size 26 #[.slice y5 l1.length z5]] := S14
    clear S14
    go_wp2_with fail
    go_at_call 24
    refine (L5.copyRec S15 hR2 (by omega)).mono ?_
    rintro e w6 ⟨y6, z6, rfl, hS⟩
    clear f0 f1 f2 f4 f6 f8
    have S16 := hS
    clear hS
    clear S15
    have f0 := (L5.Row.one (L4.box_at S16 0 rfl)).1
    have f1 := (L5.Row.one (L4.box_at S16 1 rfl)).1
    have f2 := (L5.Row.one (L4.box_at S16 2 rfl)).1
    have f4 := (L5.Row.one (L4.box_at S16 4 rfl)).1
    have f6 := (L5.Row.one (L4.box_at S16 6 rfl)).1
    have f8 := (L5.Row.one (L4.box_at S16 8 rfl)).1
    have S17 : Sl.Sep W _ [L4.boxR (W.heap.size) 45 #[.slice a0 l0.length c0], L4.boxR (W.heap.size + 1) 45 #[.slice a1 l1.length c1], L4.boxR (W.heap.size + 1 + 1) 45 #[.slice a2 l2.length c2], Sv.ownV 64 2 y3 z3 r0.length (L5.cellsF r0), L4.boxR g3' 26 #[.slice y3 r0.length z3], Sv.ownV 64 2 y4 z4 l0.length (L5.cellsF l0), L4.boxR w4.heap.size 26 #[.slice y4 l0.length z4], Sv.ownV 64 2 y5 z5 l1.length (L5.cellsF l1), L4.boxR w5.heap.size 26 #[.slice y5 l1.length z5], Sv.ownV 64 2 y6 z6 l2.length (L5.cellsF l2)] := S16
    clear S16
    clear f0 f1 f2 f4 f6 f8
    have S18 := L4.push_box S17 26 #[.slice y6 l2.length z6] _ rfl
    clear S17
    have f0 := (L5.Row.one (L4.box_at S18 0 rfl)).1
    have f1 := (L5.Row.one (L4.box_at S18 1 rfl)).1
    have f2 := (L5.Row.one (L4.box_at S18 2 rfl)).1
    have f4 := (L5.Row.one (L4.box_at S18 4 rfl)).1
    have f6 := (L5.Row.one (L4.box_at S18 6 rfl)).1
    have f8 := (L5.Row.one (L4.box_at S18 8 rfl)).1
    have f10 := (L5.Row.one (L4.box_at S18 10 rfl)).1
    have S19 : Sl.Sep W _ [L4.boxR (W.heap.size) 45 #[.slice a0 l0.length c0], L4.boxR (W.heap.size + 1) 45 #[.slice a1 l1.length c1], L4.boxR (W.heap.size + 1 + 1) 45 #[.slice a2 l2.length c2], Sv.ownV 64 2 y3 z3 r0.length (L5.cellsF r0), L4.boxR g3' 26 #[.slice y3 r0.length z3], Sv.ownV 64 2 y4 z4 l0.length (L5.cellsF l0), L4.boxR w4.heap.size 26 #[.slice y4 l0.length z4], Sv.ownV 64 2 y5 z5 l1.length (L5.cellsF l1), L4.boxR w5.heap.size 26 #[.slice y5 l1.length z5], Sv.ownV 64 2 y6 z6 l2.length (L5.cellsF l2), L4.boxR w6.heap.size 26 #[.slice y6 l2.length z6]] := S18
    clear S18
    go_wp2_with fail
    go_at_call 21
    refine (Cimpl.out _ _ _ _ _ _ _ ((Sv.own_at S19 5 rfl).reads) ((Sv.own_at S19 5 rfl).cap) (L5.own_zero (Sv.own_at S19 5 rfl)) ((Sv.own_at S19 7 rfl).reads) ((Sv.own_at S19 7 rfl).cap) (L5.own_zero (Sv.own_at S19 7 rfl)) ((Sv.own_at S19 9 rfl).reads) ((Sv.own_at S19 9 rfl).cap) (L5.own_zero (Sv.own_at S19 9 rfl))).mono ?_
    rintro e w7 ⟨y7, z7, rfl, ho, hb⟩
    clear f0 f1 f2 f4 f6 f8 f10
    have S20 := Sv.push_own S19 hb ho
    clear S19
    clear hb ho
    have f0 := (L5.Row.one (L4.box_at S20 0 rfl)).1
    have f1 := (L5.Row.one (L4.box_at S20 1 rfl)).1
    have f2 := (L5.Row.one (L4.box_at S20 2 rfl)).1
    have f4 := (L5.Row.one (L4.box_at S20 4 rfl)).1
    have f6 := (L5.Row.one (L4.box_at S20 6 rfl)).1
    have f8 := (L5.Row.one (L4.box_at S20 8 rfl)).1
    have f10 := (L5.Row.one (L4.box_at S20 10 rfl)).1
    have S21 : Sl.Sep W _ [L4.boxR (W.heap.size) 45 #[.slice a0 l0.length c0], L4.boxR (W.heap.size + 1) 45 #[.slice a1 l1.length c1], L4.boxR (W.heap.size + 1 + 1) 45 #[.slice a2 l2.length c2], Sv.ownV 64 2 y3 z3 r0.length (L5.cellsF r0), L4.boxR g3' 26 #[.slice y3 r0.length z3], Sv.ownV 64 2 y4 z4 l0.length (L5.cellsF l0), L4.boxR w4.heap.size 26 #[.slice y4 l0.length z4], Sv.ownV 64 2 y5 z5 l1.length (L5.cellsF l1), L4.boxR w5.heap.size 26 #[.slice y5 l1.length z5], Sv.ownV 64 2 y6 z6 l2.length (L5.cellsF l2), L4.boxR w6.heap.size 26 #[.slice y6 l2.length z6], Sv.ownV 64 2 y7 z7 r0.length (L5.cellsF r0)] := S20
    clear S20
    clear f0 f1 f2 f4 f6 f8 f10
    have S22 := L4.push_box S21 26 #[.slice y7 r0.length z7] _ rfl
    clear S21
    have f0 := (L5.Row.one (L4.box_at S22 0 rfl)).1
    have f1 := (L5.Row.one (L4.box_at S22 1 rfl)).1
    have f2 := (L5.Row.one (L4.box_at S22 2 rfl)).1
    have f4 := (L5.Row.one (L4.box_at S22 4 rfl)).1
    have f6 := (L5.Row.one (L4.box_at S22 6 rfl)).1
    have f8 := (L5.Row.one (L4.box_at S22 8 rfl)).1
    have f10 := (L5.Row.one (L4.box_at S22 10 rfl)).1
    have f12 := (L5.Row.one (L4.box_at S22 12 rfl)).1
    have S23 : Sl.Sep W _ [L4.boxR (W.heap.size) 45 #[.slice a0 l0.length c0], L4.boxR (W.heap.size + 1) 45 #[.slice a1 l1.length c1], L4.boxR (W.heap.size + 1 + 1) 45 #[.slice a2 l2.length c2], Sv.ownV 64 2 y3 z3 r0.length (L5.cellsF r0), L4.boxR g3' 26 #[.slice y3 r0.length z3], Sv.ownV 64 2 y4 z4 l0.length (L5.cellsF l0), L4.boxR w4.heap.size 26 #[.slice y4 l0.length z4], Sv.ownV 64 2 y5 z5 l1.length (L5.cellsF l1), L4.boxR w5.heap.size 26 #[.slice y5 l1.length z5], Sv.ownV 64 2 y6 z6 l2.length (L5.cellsF l2), L4.boxR w6.heap.size 26 #[.slice y6 l2.length z6], Sv.ownV 64 2 y7 z7 r0.length (L5.cellsF r0), L4.boxR w7.heap.size 26 #[.slice y7 r0.length z7]] := S22
    clear S22
    go_wp2_with fail
    go_at_call 25
    refine (L5.eqRec S23 11 3 rfl rfl (by omega)).mono ?_
    rintro e w8 ⟨rfl, hS⟩
    clear f0 f1 f2 f4 f6 f8 f10 f12
    have S24 := hS
    clear hS
    clear S23
    have f0 := (L5.Row.one (L4.box_at S24 0 rfl)).1
    have f1 := (L5.Row.one (L4.box_at S24 1 rfl)).1
    have f2 := (L5.Row.one (L4.box_at S24 2 rfl)).1
    have f4 := (L5.Row.one (L4.box_at S24 4 rfl)).1
    have f6 := (L5.Row.one (L4.box_at S24 6 rfl)).1
    have f8 := (L5.Row.one (L4.box_at S24 8 rfl)).1
    have f10 := (L5.Row.one (L4.box_at S24 10 rfl)).1
    have f12 := (L5.Row.one (L4.box_at S24 12 rfl)).1
    go_upto_region 18 with fail
    refine wp_region_held_drew (S := (fun w' => w'.cell? ⟨W.heap.size, 0, none⟩ = some (.slice a0 l0.length c0) ∧ w'.cell? ⟨w4.heap.size, 0, none⟩ = some (.slice y4 l0.length z4))) (by kernel_rfl) ⟨(L5.Row.one (L4.box_at S24 0 rfl)).1, (L5.Row.one (L4.box_at S24 6 rfl)).1⟩ (fun hS => ?_)
    clear f0 f1 f2 f4 f6 f8 f10 f12
    have SD0 := drew1 S24
    clear S24
    generalize World.drew _ = wd at hS SD0 ⊢
    refine Reg.take_op (i := 0) (v := ?_) rfl (by kernel_rfl) (by kernel_rfl) (by kernel_rfl) (fun _ _ _ h => h) (by rfl) ?_ (by assumption) ?_
    rotate_left
    · (intro w hSw; (try dsimp only at hSw); go_simp; try with_reducible rfl)
    try simp only [Act.put, List.setIfInBounds_toArray, List.set_cons_zero, List.set_cons_succ]
    refine Reg.take_op (i := 1) (v := ?_) rfl (by kernel_rfl) (by kernel_rfl) (by kernel_rfl) (fun _ _ _ h => h) (by rfl) ?_ (by assumption) ?_
    rotate_left
    · (intro w hSw; (try dsimp only at hSw); go_simp; try with_reducible rfl)
    try simp only [Act.put, List.setIfInBounds_toArray, List.set_cons_zero, List.set_cons_succ]
    refine Reg.one_op (i := 2) rfl (by kernel_rfl) (fun K hK => ?_)
    go_simp
    go_at_call 24
    refine (L5.copyRec SD0 hR0 (by omega)).mono ?_
    rintro e wq1 ⟨y8, z8, rfl, hS⟩
    have SD1 := hS
    clear hS
    go_wp2_with fail
    refine hK.out _ _ ⟨(L5.Row.one (L4.box_at SD1 0 rfl)).1, (L5.Row.one (L4.box_at SD1 6 rfl)).1⟩ (fun hS => ?_)
    clear hK K
    try simp only [Act.put, List.setIfInBounds_toArray, List.set_cons_zero, List.set_cons_succ]
    refine Reg.one_op (i := 3) rfl (by kernel_rfl) (fun K hK => ?_)
    go_simp
    go_at_call 25
    refine (L5.eqRec SD1 5 13 rfl rfl (by omega)).mono ?_
    rintro e wq2 ⟨rfl, hS⟩
    have SD2 := hS
    clear hS
    go_wp2_with fail
    refine hK.out _ _ ⟨(L5.Row.one (L4.box_at SD2 0 rfl)).1, (L5.Row.one (L4.box_at SD2 6 rfl)).1⟩ (fun hS => ?_)
    clear hK K
    try simp only [Act.put, List.setIfInBounds_toArray, List.set_cons_zero, List.set_cons_succ]
    refine Reg.take_op (i := 4) (v := ?_) rfl (by kernel_rfl) (by kernel_rfl) (by kernel_rfl) (fun _ _ _ h => h) (by rfl) ?_ (by assumption) ?_
    rotate_left
    · (intro w hSw; (try dsimp only at hSw); go_simp; try with_reducible rfl)
    try simp only [Act.put, List.setIfInBounds_toArray, List.set_cons_zero, List.set_cons_succ]
    refine wpAnyH_done (by kernel_rfl) ?_ _
    have S25 := SD2
    clear SD0 SD1 SD2
    have f0 := (L5.Row.one (L4.box_at S25 0 rfl)).1
    have f1 := (L5.Row.one (L4.box_at S25 1 rfl)).1
    have f2 := (L5.Row.one (L4.box_at S25 2 rfl)).1
    have f4 := (L5.Row.one (L4.box_at S25 4 rfl)).1
    have f6 := (L5.Row.one (L4.box_at S25 6 rfl)).1
    have f8 := (L5.Row.one (L4.box_at S25 8 rfl)).1
    have f10 := (L5.Row.one (L4.box_at S25 10 rfl)).1
    have f12 := (L5.Row.one (L4.box_at S25 12 rfl)).1
    clear f0 f1 f2 f4 f6 f8 f10 f12
    have S26 : Sl.Sep W _ [L4.boxR (W.heap.size) 45 #[.slice a0 l0.length c0], L4.boxR (W.heap.size + 1) 45 #[.slice a1 l1.length c1], L4.boxR (W.heap.size + 1 + 1) 45 #[.slice a2 l2.length c2], Sv.ownV 64 2 y3 z3 r0.length (L5.cellsF r0), L4.boxR g3' 26 #[.slice y3 r0.length z3], Sv.ownV 64 2 y4 z4 l0.length (L5.cellsF l0), L4.boxR w4.heap.size 26 #[.slice y4 l0.length z4], Sv.ownV 64 2 y5 z5 l1.length (L5.cellsF l1), L4.boxR w5.heap.size 26 #[.slice y5 l1.length z5], Sv.ownV 64 2 y6 z6 l2.length (L5.cellsF l2), L4.boxR w6.heap.size 26 #[.slice y6 l2.length z6], Sv.ownV 64 2 y7 z7 r0.length (L5.cellsF r0), L4.boxR w7.heap.size 26 #[.slice y7 r0.length z7]] := sep_take S25 [0, 1, 2, 3, 4, 5, 6, 7, 8, 9, 10, 11, 12] (by rfl) (by decide)
    clear S25
    have f0 := (L5.Row.one (L4.box_at S26 0 rfl)).1
    have f1 := (L5.Row.one (L4.box_at S26 1 rfl)).1
    have f2 := (L5.Row.one (L4.box_at S26 2 rfl)).1
    have f4 := (L5.Row.one (L4.box_at S26 4 rfl)).1
    have f6 := (L5.Row.one (L4.box_at S26 6 rfl)).1
    have f8 := (L5.Row.one (L4.box_at S26 8 rfl)).1
    have f10 := (L5.Row.one (L4.box_at S26 10 rfl)).1
    have f12 := (L5.Row.one (L4.box_at S26 12 rfl)).1
    go_upto_region 20 with fail
    refine wp_region_held_drew (S := (fun w' => w'.cell? ⟨W.heap.size + 1, 0, none⟩ = some (.slice a1 l1.length c1) ∧ w'.cell? ⟨w5.heap.size, 0, none⟩ = some (.slice y5 l1.length z5))) (by kernel_rfl) ⟨(L5.Row.one (L4.box_at S26 1 rfl)).1, (L5.Row.one (L4.box_at S26 8 rfl)).1⟩ (fun hS => ?_)
    clear f0 f1 f2 f4 f6 f8 f10 f12
    have SD0 := drew1 S26
    clear S26
    generalize World.drew _ = wd at hS SD0 ⊢
    refine Reg.take_op (i := 0) (v := ?_) rfl (by kernel_rfl) (by kernel_rfl) (by kernel_rfl) (fun _ _ _ h => h) (by rfl) ?_ (by assumption) ?_
    rotate_left
    · (intro w hSw; (try dsimp only at hSw); go_simp; try with_reducible rfl)
    try simp only [Act.put, List.setIfInBounds_toArray, List.set_cons_zero, List.set_cons_succ]
    refine Reg.take_op (i := 1) (v := ?_) rfl (by kernel_rfl) (by kernel_rfl) (by kernel_rfl) (fun _ _ _ h => h) (by rfl) ?_ (by assumption) ?_
    rotate_left
    · (intro w hSw; (try dsimp only at hSw); go_simp; try with_reducible rfl)
    try simp only [Act.put, List.setIfInBounds_toArray, List.set_cons_zero, List.set_cons_succ]
    refine Reg.one_op (i := 2) rfl (by kernel_rfl) (fun K hK => ?_)
    go_simp
    go_at_call 24
    refine (L5.copyRec SD0 hR1 (by omega)).mono ?_
    rintro e wq1 ⟨y9, z9, rfl, hS⟩
    have SD1 := hS
    clear hS
    go_wp2_with fail
    refine hK.out _ _ ⟨(L5.Row.one (L4.box_at SD1 1 rfl)).1, (L5.Row.one (L4.box_at SD1 8 rfl)).1⟩ (fun hS => ?_)
    clear hK K
    try simp only [Act.put, List.setIfInBounds_toArray, List.set_cons_zero, List.set_cons_succ]
    refine Reg.one_op (i := 3) rfl (by kernel_rfl) (fun K hK => ?_)
    go_simp
    go_at_call 25
    refine (L5.eqRec SD1 7 13 rfl rfl (by omega)).mono ?_
    rintro e wq2 ⟨rfl, hS⟩
    have SD2 := hS
    clear hS
    go_wp2_with fail
    refine hK.out _ _ ⟨(L5.Row.one (L4.box_at SD2 1 rfl)).1, (L5.Row.one (L4.box_at SD2 8 rfl)).1⟩ (fun hS => ?_)
    clear hK K
    try simp only [Act.put, List.setIfInBounds_toArray, List.set_cons_zero, List.set_cons_succ]
    refine Reg.take_op (i := 4) (v := ?_) rfl (by kernel_rfl) (by kernel_rfl) (by kernel_rfl) (fun _ _ _ h => h) (by rfl) ?_ (by assumption) ?_
    rotate_left
    · (intro w hSw; (try dsimp only at hSw); go_simp; try with_reducible rfl)
    try simp only [Act.put, List.setIfInBounds_toArray, List.set_cons_zero, List.set_cons_succ]
    refine wpAnyH_done (by kernel_rfl) ?_ _
    have S27 := SD2
    clear SD0 SD1 SD2
    have f0 := (L5.Row.one (L4.box_at S27 0 rfl)).1
    have f1 := (L5.Row.one (L4.box_at S27 1 rfl)).1
    have f2 := (L5.Row.one (L4.box_at S27 2 rfl)).1
    have f4 := (L5.Row.one (L4.box_at S27 4 rfl)).1
    have f6 := (L5.Row.one (L4.box_at S27 6 rfl)).1
    have f8 := (L5.Row.one (L4.box_at S27 8 rfl)).1
    have f10 := (L5.Row.one (L4.box_at S27 10 rfl)).1
    have f12 := (L5.Row.one (L4.box_at S27 12 rfl)).1
    clear f0 f1 f2 f4 f6 f8 f10 f12
    have S28 : Sl.Sep W _ [L4.boxR (W.heap.size) 45 #[.slice a0 l0.length c0], L4.boxR (W.heap.size + 1) 45 #[.slice a1 l1.length c1], L4.boxR (W.heap.size + 1 + 1) 45 #[.slice a2 l2.length c2], Sv.ownV 64 2 y3 z3 r0.length (L5.cellsF r0), L4.boxR g3' 26 #[.slice y3 r0.length z3], Sv.ownV 64 2 y4 z4 l0.length (L5.cellsF l0), L4.boxR w4.heap.size 26 #[.slice y4 l0.length z4], Sv.ownV 64 2 y5 z5 l1.length (L5.cellsF l1), L4.boxR w5.heap.size 26 #[.slice y5 l1.length z5], Sv.ownV 64 2 y6 z6 l2.length (L5.cellsF l2), L4.boxR w6.heap.size 26 #[.slice y6 l2.length z6], Sv.ownV 64 2 y7 z7 r0.length (L5.cellsF r0), L4.boxR w7.heap.size 26 #[.slice y7 r0.length z7]] := sep_take S27 [0, 1, 2, 3, 4, 5, 6, 7, 8, 9, 10, 11, 12] (by rfl) (by decide)
    clear S27
    have f0 := (L5.Row.one (L4.box_at S28 0 rfl)).1
    have f1 := (L5.Row.one (L4.box_at S28 1 rfl)).1
    have f2 := (L5.Row.one (L4.box_at S28 2 rfl)).1
    have f4 := (L5.Row.one (L4.box_at S28 4 rfl)).1
    have f6 := (L5.Row.one (L4.box_at S28 6 rfl)).1
    have f8 := (L5.Row.one (L4.box_at S28 8 rfl)).1
    have f10 := (L5.Row.one (L4.box_at S28 10 rfl)).1
    have f12 := (L5.Row.one (L4.box_at S28 12 rfl)).1
    go_upto_region 22 with fail
    refine wp_region_held_drew (S := (fun w' => w'.cell? ⟨W.heap.size + 1 + 1, 0, none⟩ = some (.slice a2 l2.length c2) ∧ w'.cell? ⟨w6.heap.size, 0, none⟩ = some (.slice y6 l2.length z6))) (by kernel_rfl) ⟨(L5.Row.one (L4.box_at S28 2 rfl)).1, (L5.Row.one (L4.box_at S28 10 rfl)).1⟩ (fun hS => ?_)
    clear f0 f1 f2 f4 f6 f8 f10 f12
    have SD0 := drew1 S28
    clear S28
    generalize World.drew _ = wd at hS SD0 ⊢
    refine Reg.take_op (i := 0) (v := ?_) rfl (by kernel_rfl) (by kernel_rfl) (by kernel_rfl) (fun _ _ _ h => h) (by rfl) ?_ (by assumption) ?_
    rotate_left
    · (intro w hSw; (try dsimp only at hSw); go_simp; try with_reducible rfl)
    try simp only [Act.put, List.setIfInBounds_toArray, List.set_cons_zero, List.set_cons_succ]
    refine Reg.take_op (i := 1) (v := ?_) rfl (by kernel_rfl) (by kernel_rfl) (by kernel_rfl) (fun _ _ _ h => h) (by rfl) ?_ (by assumption) ?_
    rotate_left
    · (intro w hSw; (try dsimp only at hSw); go_simp; try with_reducible rfl)
    try simp only [Act.put, List.setIfInBounds_toArray, List.set_cons_zero, List.set_cons_succ]
    refine Reg.one_op (i := 2) rfl (by kernel_rfl) (fun K hK => ?_)
    go_simp
    go_at_call 24
    refine (L5.copyRec SD0 hR2 (by omega)).mono ?_
    rintro e wq1 ⟨y10, z10, rfl, hS⟩
    have SD1 := hS
    clear hS
    go_wp2_with fail
    refine hK.out _ _ ⟨(L5.Row.one (L4.box_at SD1 2 rfl)).1, (L5.Row.one (L4.box_at SD1 10 rfl)).1⟩ (fun hS => ?_)
    clear hK K
    try simp only [Act.put, List.setIfInBounds_toArray, List.set_cons_zero, List.set_cons_succ]
    refine Reg.one_op (i := 3) rfl (by kernel_rfl) (fun K hK => ?_)
    go_simp
    go_at_call 25
    refine (L5.eqRec SD1 9 13 rfl rfl (by omega)).mono ?_
    rintro e wq2 ⟨rfl, hS⟩
    have SD2 := hS
    clear hS
    go_wp2_with fail
    refine hK.out _ _ ⟨(L5.Row.one (L4.box_at SD2 2 rfl)).1, (L5.Row.one (L4.box_at SD2 10 rfl)).1⟩ (fun hS => ?_)
    clear hK K
    try simp only [Act.put, List.setIfInBounds_toArray, List.set_cons_zero, List.set_cons_succ]
    refine Reg.take_op (i := 4) (v := ?_) rfl (by kernel_rfl) (by kernel_rfl) (by kernel_rfl) (fun _ _ _ h => h) (by rfl) ?_ (by assumption) ?_
    rotate_left
    · (intro w hSw; (try dsimp only at hSw); go_simp; try with_reducible rfl)
    try simp only [Act.put, List.setIfInBounds_toArray, List.set_cons_zero, List.set_cons_succ]
    refine wpAnyH_done (by kernel_rfl) ?_ _
    have S29 := SD2
    clear SD0 SD1 SD2
    have f0 := (L5.Row.one (L4.box_at S29 0 rfl)).1
    have f1 := (L5.Row.one (L4.box_at S29 1 rfl)).1
    have f2 := (L5.Row.one (L4.box_at S29 2 rfl)).1
    have f4 := (L5.Row.one (L4.box_at S29 4 rfl)).1
    have f6 := (L5.Row.one (L4.box_at S29 6 rfl)).1
    have f8 := (L5.Row.one (L4.box_at S29 8 rfl)).1
    have f10 := (L5.Row.one (L4.box_at S29 10 rfl)).1
    have f12 := (L5.Row.one (L4.box_at S29 12 rfl)).1
    clear f0 f1 f2 f4 f6 f8 f10 f12
    have S30 : Sl.Sep W _ [L4.boxR (W.heap.size) 45 #[.slice a0 l0.length c0], L4.boxR (W.heap.size + 1) 45 #[.slice a1 l1.length c1], L4.boxR (W.heap.size + 1 + 1) 45 #[.slice a2 l2.length c2], Sv.ownV 64 2 y3 z3 r0.length (L5.cellsF r0), L4.boxR g3' 26 #[.slice y3 r0.length z3], Sv.ownV 64 2 y4 z4 l0.length (L5.cellsF l0), L4.boxR w4.heap.size 26 #[.slice y4 l0.length z4], Sv.ownV 64 2 y5 z5 l1.length (L5.cellsF l1), L4.boxR w5.heap.size 26 #[.slice y5 l1.length z5], Sv.ownV 64 2 y6 z6 l2.length (L5.cellsF l2), L4.boxR w6.heap.size 26 #[.slice y6 l2.length z6], Sv.ownV 64 2 y7 z7 r0.length (L5.cellsF r0), L4.boxR w7.heap.size 26 #[.slice y7 r0.length z7]] := sep_take S29 [0, 1, 2, 3, 4, 5, 6, 7, 8, 9, 10, 11, 12] (by rfl) (by decide)
    clear S29
    have f0 := (L5.Row.one (L4.box_at S30 0 rfl)).1
    have f1 := (L5.Row.one (L4.box_at S30 1 rfl)).1
    have f2 := (L5.Row.one (L4.box_at S30 2 rfl)).1
    have f4 := (L5.Row.one (L4.box_at S30 4 rfl)).1
    have f6 := (L5.Row.one (L4.box_at S30 6 rfl)).1
    have f8 := (L5.Row.one (L4.box_at S30 8 rfl)).1
    have f10 := (L5.Row.one (L4.box_at S30 10 rfl)).1
    have f12 := (L5.Row.one (L4.box_at S30 12 rfl)).1
    go_wp2_with fail
    go_at_call 26
    refine (L5.markRec S30 5 rfl _ (by omega) (by omega) (by omega)).mono ?_
    rintro e w9 ⟨rfl, hS⟩
    clear f0 f1 f2 f4 f6 f8 f10 f12
    have S31 := hS
    clear hS
    clear S30
    have f0 := (L5.Row.one (L4.box_at S31 0 rfl)).1
    have f1 := (L5.Row.one (L4.box_at S31 1 rfl)).1
    have f2 := (L5.Row.one (L4.box_at S31 2 rfl)).1
    have f4 := (L5.Row.one (L4.box_at S31 4 rfl)).1
    have f6 := (L5.Row.one (L4.box_at S31 6 rfl)).1
    have f8 := (L5.Row.one (L4.box_at S31 8 rfl)).1
    have f10 := (L5.Row.one (L4.box_at S31 10 rfl)).1
    have f12 := (L5.Row.one (L4.box_at S31 12 rfl)).1
    clear f0 f1 f2 f4 f6 f8 f10 f12
    have S32 : Sl.Sep W _ [L4.boxR (W.heap.size) 45 #[.slice a0 l0.length c0], L4.boxR (W.heap.size + 1) 45 #[.slice a1 l1.length c1], L4.boxR (W.heap.size + 1 + 1) 45 #[.slice a2 l2.length c2], Sv.ownV 64 2 y3 z3 r0.length (L5.cellsF r0), L4.boxR g3' 26 #[.slice y3 r0.length z3], L4.boxR w4.heap.size 26 #[.slice y4 l0.length z4], Sv.ownV 64 2 y5 z5 l1.length (L5.cellsF l1), L4.boxR w5.heap.size 26 #[.slice y5 l1.length z5], Sv.ownV 64 2 y6 z6 l2.length (L5.cellsF l2), L4.boxR w6.heap.size 26 #[.slice y6 l2.length z6], Sv.ownV 64 2 y7 z7 r0.length (L5.cellsF r0), L4.boxR w7.heap.size 26 #[.slice y7 r0.length z7]] := sep_take S31 [0, 1, 2, 3, 4, 6, 7, 8, 9, 10, 11, 12] (by rfl) (by decide)
    clear S31
    have f0 := (L5.Row.one (L4.box_at S32 0 rfl)).1
    have f1 := (L5.Row.one (L4.box_at S32 1 rfl)).1
    have f2 := (L5.Row.one (L4.box_at S32 2 rfl)).1
    have f4 := (L5.Row.one (L4.box_at S32 4 rfl)).1
    have f5 := (L5.Row.one (L4.box_at S32 5 rfl)).1
    have f7 := (L5.Row.one (L4.box_at S32 7 rfl)).1
    have f9 := (L5.Row.one (L4.box_at S32 9 rfl)).1
    have f11 := (L5.Row.one (L4.box_at S32 11 rfl)).1
    go_wp2_with fail
    go_at_call 26
    refine (L5.markRec S32 6 rfl _ (by omega) (by omega) (by omega)).mono ?_
    rintro e w10 ⟨rfl, hS⟩
    clear f0 f1 f2 f4 f5 f7 f9 f11
    have S33 := hS
    clear hS
    clear S32
    have f0 := (L5.Row.one (L4.box_at S33 0 rfl)).1
    have f1 := (L5.Row.one (L4.box_at S33 1 rfl)).1
    have f2 := (L5.Row.one (L4.box_at S33 2 rfl)).1
    have f4 := (L5.Row.one (L4.box_at S33 4 rfl)).1
    have f5 := (L5.Row.one (L4.box_at S33 5 rfl)).1
    have f7 := (L5.Row.one (L4.box_at S33 7 rfl)).1
    have f9 := (L5.Row.one (L4.box_at S33 9 rfl)).1
    have f11 := (L5.Row.one (L4.box_at S33 11 rfl)).1
    clear f0 f1 f2 f4 f5 f7 f9 f11
    have S34 : Sl.Sep W _ [L4.boxR (W.heap.size) 45 #[.slice a0 l0.length c0], L4.boxR (W.heap.size + 1) 45 #[.slice a1 l1.length c1], L4.boxR (W.heap.size + 1 + 1) 45 #[.slice a2 l2.length c2], Sv.ownV 64 2 y3 z3 r0.length (L5.cellsF r0), L4.boxR g3' 26 #[.slice y3 r0.length z3], L4.boxR w4.heap.size 26 #[.slice y4 l0.length z4], L4.boxR w5.heap.size 26 #[.slice y5 l1.length z5], Sv.ownV 64 2 y6 z6 l2.length (L5.cellsF l2), L4.boxR w6.heap.size 26 #[.slice y6 l2.length z6], Sv.ownV 64 2 y7 z7 r0.length (L5.cellsF r0), L4.boxR w7.heap.size 26 #[.slice y7 r0.length z7]] := sep_take S33 [0, 1, 2, 3, 4, 5, 7, 8, 9, 10, 11] (by rfl) (by decide)
    clear S33
    have f0 := (L5.Row.one (L4.box_at S34 0 rfl)).1
    have f1 := (L5.Row.one (L4.box_at S34 1 rfl)).1
    have f2 := (L5.Row.one (L4.box_at S34 2 rfl)).1
    have f4 := (L5.Row.one (L4.box_at S34 4 rfl)).1
    have f5 := (L5.Row.one (L4.box_at S34 5 rfl)).1
    have f6 := (L5.Row.one (L4.box_at S34 6 rfl)).1
    have f8 := (L5.Row.one (L4.box_at S34 8 rfl)).1
    have f10 := (L5.Row.one (L4.box_at S34 10 rfl)).1
    go_wp2_with fail
    go_at_call 26
    refine (L5.markRec S34 7 rfl _ (by omega) (by omega) (by omega)).mono ?_
    rintro e w11 ⟨rfl, hS⟩
    clear f0 f1 f2 f4 f5 f6 f8 f10
    have S35 := hS
    clear hS
    clear S34
    have f0 := (L5.Row.one (L4.box_at S35 0 rfl)).1
    have f1 := (L5.Row.one (L4.box_at S35 1 rfl)).1
    have f2 := (L5.Row.one (L4.box_at S35 2 rfl)).1
    have f4 := (L5.Row.one (L4.box_at S35 4 rfl)).1
    have f5 := (L5.Row.one (L4.box_at S35 5 rfl)).1
    have f6 := (L5.Row.one (L4.box_at S35 6 rfl)).1
    have f8 := (L5.Row.one (L4.box_at S35 8 rfl)).1
    have f10 := (L5.Row.one (L4.box_at S35 10 rfl)).1
    clear f0 f1 f2 f4 f5 f6 f8 f10
    have S36 : Sl.Sep W _ [L4.boxR (W.heap.size) 45 #[.slice a0 l0.length c0], L4.boxR (W.heap.size + 1) 45 #[.slice a1 l1.length c1], L4.boxR (W.heap.size + 1 + 1) 45 #[.slice a2 l2.length c2], Sv.ownV 64 2 y3 z3 r0.length (L5.cellsF r0), L4.boxR g3' 26 #[.slice y3 r0.length z3], L4.boxR w4.heap.size 26 #[.slice y4 l0.length z4], L4.boxR w5.heap.size 26 #[.slice y5 l1.length z5], L4.boxR w6.heap.size 26 #[.slice y6 l2.length z6], Sv.ownV 64 2 y7 z7 r0.length (L5.cellsF r0), L4.boxR w7.heap.size 26 #[.slice y7 r0.length z7]] := sep_take S35 [0, 1, 2, 3, 4, 5, 6, 8, 9, 10] (by rfl) (by decide)
    clear S35
    have f0 := (L5.Row.one (L4.box_at S36 0 rfl)).1
    have f1 := (L5.Row.one (L4.box_at S36 1 rfl)).1
    have f2 := (L5.Row.one (L4.box_at S36 2 rfl)).1
    have f4 := (L5.Row.one (L4.box_at S36 4 rfl)).1
    have f5 := (L5.Row.one (L4.box_at S36 5 rfl)).1
    have f6 := (L5.Row.one (L4.box_at S36 6 rfl)).1
    have f7 := (L5.Row.one (L4.box_at S36 7 rfl)).1
    have f9 := (L5.Row.one (L4.box_at S36 9 rfl)).1
    go_wp2_with fail
    go_at_call 25
    refine (L5.eqRec S36 8 3 rfl rfl (by omega)).mono ?_
    rintro e w12 ⟨rfl, hS⟩
    clear f0 f1 f2 f4 f5 f6 f7 f9
    have S37 := hS
    clear hS
    clear S36
    have f0 := (L5.Row.one (L4.box_at S37 0 rfl)).1
    have f1 := (L5.Row.one (L4.box_at S37 1 rfl)).1
    have f2 := (L5.Row.one (L4.box_at S37 2 rfl)).1
    have f4 := (L5.Row.one (L4.box_at S37 4 rfl)).1
    have f5 := (L5.Row.one (L4.box_at S37 5 rfl)).1
    have f6 := (L5.Row.one (L4.box_at S37 6 rfl)).1
    have f7 := (L5.Row.one (L4.box_at S37 7 rfl)).1
    have f9 := (L5.Row.one (L4.box_at S37 9 rfl)).1
    go_wp2_with fail
    go_at_call 26
    refine (L5.markRec S37 8 rfl _ (by omega) (by omega) (by omega)).mono ?_
    rintro e w13 ⟨rfl, hS⟩
    clear f0 f1 f2 f4 f5 f6 f7 f9
    have S38 := hS
    clear hS
    clear S37
    have f0 := (L5.Row.one (L4.box_at S38 0 rfl)).1
    have f1 := (L5.Row.one (L4.box_at S38 1 rfl)).1
    have f2 := (L5.Row.one (L4.box_at S38 2 rfl)).1
    have f4 := (L5.Row.one (L4.box_at S38 4 rfl)).1
    have f5 := (L5.Row.one (L4.box_at S38 5 rfl)).1
    have f6 := (L5.Row.one (L4.box_at S38 6 rfl)).1
    have f7 := (L5.Row.one (L4.box_at S38 7 rfl)).1
    have f9 := (L5.Row.one (L4.box_at S38 9 rfl)).1
    have S39 : Sl.Sep W _ [L4.boxR (W.heap.size) 45 #[.slice a0 l0.length c0], L4.boxR (W.heap.size + 1) 45 #[.slice a1 l1.length c1], L4.boxR (W.heap.size + 1 + 1) 45 #[.slice a2 l2.length c2], Sv.ownV 64 2 y3 z3 r0.length (L5.cellsF r0), L4.boxR g3' 26 #[.slice y3 r0.length z3], L4.boxR w4.heap.size 26 #[.slice y4 l0.length z4], L4.boxR w5.heap.size 26 #[.slice y5 l1.length z5], L4.boxR w6.heap.size 26 #[.slice y6 l2.length z6], Sv.ownV 64 2 y7 z7 r0.length (L5.cellsF (L5.marksF 1 r0.length)), L4.boxR w7.heap.size 26 #[.slice y7 r0.length z7]] := S38
    clear S38
    go_wp2_with fail
    go_at_call 27
    refine (L5.heldRec S39 8 _ rfl (by omega) (by omega) (by omega)).mono ?_
    rintro e w14 ⟨rfl, hS⟩
    clear f0 f1 f2 f4 f5 f6 f7 f9
    have S40 := hS
    clear hS
    clear S39
    have f0 := (L5.Row.one (L4.box_at S40 0 rfl)).1
    have f1 := (L5.Row.one (L4.box_at S40 1 rfl)).1
    have f2 := (L5.Row.one (L4.box_at S40 2 rfl)).1
    have f4 := (L5.Row.one (L4.box_at S40 4 rfl)).1
    have f5 := (L5.Row.one (L4.box_at S40 5 rfl)).1
    have f6 := (L5.Row.one (L4.box_at S40 6 rfl)).1
    have f7 := (L5.Row.one (L4.box_at S40 7 rfl)).1
    have f9 := (L5.Row.one (L4.box_at S40 9 rfl)).1
    go_upto_region 38 with fail
    go_cut [18, 19] (fun pz q0 wx => ∃ g11' y11 z11, pz = .pointer (some ⟨g11', 0, none⟩) ∧ q0 = .bool r1 ∧ Hid (Sl.Sep W wx [L4.boxR (W.heap.size) 45 #[.slice a0 l0.length c0], L4.boxR (W.heap.size + 1) 45 #[.slice a1 l1.length c1], L4.boxR (W.heap.size + 1 + 1) 45 #[.slice a2 l2.length c2], Sv.ownV 64 2 y3 z3 r0.length (L5.cellsF r0), L4.boxR g3' 26 #[.slice y3 r0.length z3], L4.boxR w4.heap.size 26 #[.slice y4 l0.length z4], L4.boxR w5.heap.size 26 #[.slice y5 l1.length z5], L4.boxR w6.heap.size 26 #[.slice y6 l2.length z6], Sv.ownV 64 2 y7 z7 r0.length (L5.cellsF (L5.marksF 1 r0.length)), L4.boxR w7.heap.size 26 #[.slice y7 r0.length z7], Sv.ownV 64 2 y11 z11 r0.length (L5.cellsF r0), L4.boxR g11' 26 #[.slice y11 r0.length z11]]))
    case first =>
      refine wp_region_held_drew (S := (fun w' => w'.cell? ⟨W.heap.size, 0, none⟩ = some (.slice a0 l0.length c0) ∧ w'.cell? ⟨W.heap.size + 1, 0, none⟩ = some (.slice a1 l1.length c1) ∧ w'.cell? ⟨W.heap.size + 1 + 1, 0, none⟩ = some (.slice a2 l2.length c2))) (by kernel_rfl) ⟨(L5.Row.one (L4.box_at S40 0 rfl)).1, (L5.Row.one (L4.box_at S40 1 rfl)).1, (L5.Row.one (L4.box_at S40 2 rfl)).1⟩ (fun hS => ?_)
      clear f0 f1 f2 f4 f5 f6 f7 f9
      have SD0 := drew1 S40
      clear S40
      generalize World.drew _ = wd at hS SD0 ⊢
      refine Reg.take_op (i := 0) (v := ?_) rfl (by kernel_rfl) (by kernel_rfl) (by kernel_rfl) (fun _ _ _ h => h) (by rfl) ?_ (by assumption) ?_
      rotate_left
      · (intro w hSw; (try dsimp only at hSw); go_simp; try with_reducible rfl)
      try simp only [Act.put, List.setIfInBounds_toArray, List.set_cons_zero, List.set_cons_succ]
      refine Reg.take_op (i := 2) (v := ?_) rfl (by kernel_rfl) (by kernel_rfl) (by kernel_rfl) (fun _ _ _ h => h) (by rfl) ?_ (by assumption) ?_
      rotate_left
      · (intro w hSw; (try dsimp only at hSw); go_simp; try with_reducible rfl)
      try simp only [Act.put, List.setIfInBounds_toArray, List.set_cons_zero, List.set_cons_succ]
      refine Reg.take_op (i := 4) (v := ?_) rfl (by kernel_rfl) (by kernel_rfl) (by kernel_rfl) (fun _ _ _ h => h) (by rfl) ?_ (by assumption) ?_
      rotate_left
      · (intro w hSw; (try dsimp only at hSw); go_simp; try with_reducible rfl)
      try simp only [Act.put, List.setIfInBounds_toArray, List.set_cons_zero, List.set_cons_succ]
      refine wpAnyH_ready (rs := [1, 10]) (by kernel_rfl) (by simp) ?_
      refine Reg.cons_op (i := 1) rfl (fun K hK => ?_) ?_
      · go_simp
        go_at_call 24
        refine (L5.copyRec SD0 hR0 (by omega)).mono ?_
        rintro e wq1 ⟨yc0, zc0, rfl, hS⟩
        have SD1 := hS
        clear hS
        go_wp2_with fail
        refine hK.out _ _ ⟨(L5.Row.one (L4.box_at SD1 0 rfl)).1, (L5.Row.one (L4.box_at SD1 1 rfl)).1, (L5.Row.one (L4.box_at SD1 2 rfl)).1⟩ (fun hS => ?_)
        clear hK K
        try simp only [Act.put, List.setIfInBounds_toArray, List.set_cons_zero, List.set_cons_succ]
        refine wpAnyH_ready (rs := [3, 10]) (by kernel_rfl) (by simp) ?_
        refine Reg.cons_op (i := 3) rfl (fun K hK => ?_) ?_
        · go_simp
          go_at_call 24
          refine (L5.copyRec SD1 hR1 (by omega)).mono ?_
          rintro e wq2 ⟨yc1, zc1, rfl, hS⟩
          have SD2 := hS
          clear hS
          go_wp2_with fail
          refine hK.out _ _ ⟨(L5.Row.one (L4.box_at SD2 0 rfl)).1, (L5.Row.one (L4.box_at SD2 1 rfl)).1, (L5.Row.one (L4.box_at SD2 2 rfl)).1⟩ (fun hS => ?_)
          clear hK K
          try simp only [Act.put, List.setIfInBounds_toArray, List.set_cons_zero, List.set_cons_succ]
          refine wpAnyH_ready (rs := [5, 10]) (by kernel_rfl) (by simp) ?_
          refine Reg.cons_op (i := 5) rfl (fun K hK => ?_) ?_
          · go_simp
            go_at_call 24
            refine (L5.copyRec SD2 hR2 (by omega)).mono ?_
            rintro e wq3 ⟨yc2, zc2, rfl, hS⟩
            have SD3 := hS
            clear hS
            go_wp2_with fail
            refine hK.out _ _ ⟨(L5.Row.one (L4.box_at SD3 0 rfl)).1, (L5.Row.one (L4.box_at SD3 1 rfl)).1, (L5.Row.one (L4.box_at SD3 2 rfl)).1⟩ (fun hS => ?_)
            clear hK K
            try simp only [Act.put, List.setIfInBounds_toArray, List.set_cons_zero, List.set_cons_succ]
            refine wpAnyH_ready (rs := [6, 10]) (by kernel_rfl) (by simp) ?_
            refine Reg.cons_op (i := 6) rfl (fun K hK => ?_) ?_
            · go_simp
              go_at_call 21
              refine (Cimpl.out _ _ _ _ _ _ _ (Sv.own_at SD3 10 rfl).reads (Sv.own_at SD3 10 rfl).cap (L5.own_zero (Sv.own_at SD3 10 rfl)) (Sv.own_at SD3 11 rfl).reads (Sv.own_at SD3 11 rfl).cap (L5.own_zero (Sv.own_at SD3 11 rfl)) (Sv.own_at SD3 12 rfl).reads (Sv.own_at SD3 12 rfl).cap (L5.own_zero (Sv.own_at SD3 12 rfl))).mono ?_
              rintro e wq4 ⟨y11, z11, rfl, ho, hb⟩
              have SD4 := Sv.push_own SD3 hb ho
              clear hb ho
              go_wp2_with fail
              refine hK.out _ _ ⟨(L5.Row.one (L4.box_at SD4 0 rfl)).1, (L5.Row.one (L4.box_at SD4 1 rfl)).1, (L5.Row.one (L4.box_at SD4 2 rfl)).1⟩ (fun hS => ?_)
              clear hK K
              try simp only [Act.put, List.setIfInBounds_toArray, List.set_cons_zero, List.set_cons_succ]
              refine Reg.take_op (i := 7) (v := ?_) rfl (by kernel_rfl) (by kernel_rfl) (by kernel_rfl) (fun _ _ _ h => h) (by rfl) ?_ (by assumption) ?_
              rotate_left
              · (intro w hSw; (try dsimp only at hSw); go_simp; try with_reducible rfl)
              try simp only [Act.put, List.setIfInBounds_toArray, List.set_cons_zero, List.set_cons_succ]
              refine Reg.take_op (i := 8) (v := ?_) rfl (by kernel_rfl) (by kernel_rfl) (by kernel_rfl) (fun _ _ _ h => h) (by rfl) ?_ (by assumption) ?_
              rotate_left
              · (intro w hSw; (try dsimp only at hSw); go_simp; try with_reducible rfl)
              try simp only [Act.put, List.setIfInBounds_toArray, List.set_cons_zero, List.set_cons_succ]
              refine Reg.take_op (i := 9) (v := ?_) rfl (by kernel_rfl) (by kernel_rfl) (by kernel_rfl) (fun _ _ _ h => h) (by rfl) ?_ (by assumption) ?_
              rotate_left
              · (intro w hSw; (try dsimp only at hSw); go_simp; try with_reducible rfl)
              try simp only [Act.put, List.setIfInBounds_toArray, List.set_cons_zero, List.set_cons_succ]
              refine Reg.one_op (i := 10) rfl (by kernel_rfl) (fun K hK => ?_)
              go_simp
              have SD5 := L4.push_box SD4 26 #[.slice none 0 0] wq4.heap.size rfl
              obtain ⟨g2, hg2⟩ : ∃ g2, g2 = wq4.heap.size := ⟨_, rfl⟩
              rw [← hg2] at SD5 ⊢
              clear hg2
              generalize wq4.alloc (.cells #[.slice none 0 0] 26) = wq5 at SD5 ⊢
              refine hK.out _ _ ⟨(L5.Row.one (L4.box_at SD5 0 rfl)).1, (L5.Row.one (L4.box_at SD5 1 rfl)).1, (L5.Row.one (L4.box_at SD5 2 rfl)).1⟩ (fun hS => ?_)
              clear hK K
              try simp only [Act.put, List.setIfInBounds_toArray, List.set_cons_zero, List.set_cons_succ]
              refine Reg.one_op (i := 11) rfl (by kernel_rfl) (fun K hK => ?_)
              go_simp
              obtain ⟨z0, z1⟩ := L5.Row.one (L4.box_at SD5 14 rfl)
              have SD6 := L5.put_box5 SD5 14 rfl 0 (.slice y11 r0.length z11)
              go_simp
              refine hK.out _ _ ⟨(L5.Row.one (L4.box_at SD6 0 rfl)).1, (L5.Row.one (L4.box_at SD6 1 rfl)).1, (L5.Row.one (L4.box_at SD6 2 rfl)).1⟩ (fun hS => ?_)
              clear hK K
              try simp only [Act.put, List.setIfInBounds_toArray, List.set_cons_zero, List.set_cons_succ]
              refine Reg.take_op (i := 12) (v := ?_) rfl (by kernel_rfl) (by kernel_rfl) (by kernel_rfl) (fun _ _ _ h => h) (by rfl) ?_ (by assumption) ?_
              rotate_left
              · (intro w hSw; (try dsimp only at hSw); go_simp; try with_reducible rfl)
              try simp only [Act.put, List.setIfInBounds_toArray, List.set_cons_zero, List.set_cons_succ]
              refine wpAnyH_done (by kernel_rfl) ?_ _
              go_wp2_with fail
              go_meet
              case rel =>
                refine ⟨g2, y11, z11, rfl, rfl, ?_⟩
                exact sep_take SD6 [0, 1, 2, 3, 4, 5, 6, 7, 8, 9, 13, 14] (by rfl) (by decide)
            refine Reg.cons_op (i := 10) rfl (fun K hK => ?_) ?_
            · go_simp
              have SD4 := L4.push_box SD3 26 #[.slice none 0 0] wq3.heap.size rfl
              obtain ⟨g2, hg2⟩ : ∃ g2, g2 = wq3.heap.size := ⟨_, rfl⟩
              rw [← hg2] at SD4 ⊢
              clear hg2
              generalize wq3.alloc (.cells #[.slice none 0 0] 26) = wq4 at SD4 ⊢
              refine hK.out _ _ ⟨(L5.Row.one (L4.box_at SD4 0 rfl)).1, (L5.Row.one (L4.box_at SD4 1 rfl)).1, (L5.Row.one (L4.box_at SD4 2 rfl)).1⟩ (fun hS => ?_)
              clear hK K
              try simp only [Act.put, List.setIfInBounds_toArray, List.set_cons_zero, List.set_cons_succ]
              refine Reg.one_op (i := 6) rfl (by kernel_rfl) (fun K hK => ?_)
              go_simp
              go_at_call 21
              refine (Cimpl.out _ _ _ _ _ _ _ (Sv.own_at SD4 10 rfl).reads (Sv.own_at SD4 10 rfl).cap (L5.own_zero (Sv.own_at SD4 10 rfl)) (Sv.own_at SD4 11 rfl).reads (Sv.own_at SD4 11 rfl).cap (L5.own_zero (Sv.own_at SD4 11 rfl)) (Sv.own_at SD4 12 rfl).reads (Sv.own_at SD4 12 rfl).cap (L5.own_zero (Sv.own_at SD4 12 rfl))).mono ?_
              rintro e wq5 ⟨y11, z11, rfl, ho, hb⟩
              have SD5 := Sv.push_own SD4 hb ho
              clear hb ho
              go_wp2_with fail
              refine hK.out _ _ ⟨(L5.Row.one (L4.box_at SD5 0 rfl)).1, (L5.Row.one (L4.box_at SD5 1 rfl)).1, (L5.Row.one (L4.box_at SD5 2 rfl)).1⟩ (fun hS => ?_)
              clear hK K
              try simp only [Act.put, List.setIfInBounds_toArray, List.set_cons_zero, List.set_cons_succ]
              refine Reg.take_op (i := 7) (v := ?_) rfl (by kernel_rfl) (by kernel_rfl) (by kernel_rfl) (fun _ _ _ h => h) (by rfl) ?_ (by assumption) ?_
              rotate_left
              · (intro w hSw; (try dsimp only at hSw); go_simp; try with_reducible rfl)
              try simp only [Act.put, List.setIfInBounds_toArray, List.set_cons_zero, List.set_cons_succ]
              refine Reg.take_op (i := 8) (v := ?_) rfl (by kernel_rfl) (by kernel_rfl) (by kernel_rfl) (fun _ _ _ h => h) (by rfl) ?_ (by assumption) ?_
              rotate_left
              · (intro w hSw; (try dsimp only at hSw); go_simp; try with_reducible rfl)
              try simp only [Act.put, List.setIfInBounds_toArray, List.set_cons_zero, List.set_cons_succ]
              refine Reg.take_op (i := 9) (v := ?_) rfl (by kernel_rfl) (by kernel_rfl) (by kernel_rfl) (fun _ _ _ h => h) (by rfl) ?_ (by assumption) ?_
              rotate_left
              · (intro w hSw; (try dsimp only at hSw); go_simp; try with_reducible rfl)
              try simp only [Act.put, List.setIfInBounds_toArray, List.set_cons_zero, List.set_cons_succ]
              refine Reg.one_op (i := 11) rfl (by kernel_rfl) (fun K hK => ?_)
              go_simp
              obtain ⟨z0, z1⟩ := L5.Row.one (L4.box_at SD5 13 rfl)
              have SD6 := L5.put_box5 SD5 13 rfl 0 (.slice y11 r0.length z11)
              go_simp
              refine hK.out _ _ ⟨(L5.Row.one (L4.box_at SD6 0 rfl)).1, (L5.Row.one (L4.box_at SD6 1 rfl)).1, (L5.Row.one (L4.box_at SD6 2 rfl)).1⟩ (fun hS => ?_)
              clear hK K
              try simp only [Act.put, List.setIfInBounds_toArray, List.set_cons_zero, List.set_cons_succ]
              refine Reg.take_op (i := 12) (v := ?_) rfl (by kernel_rfl) (by kernel_rfl) (by kernel_rfl) (fun _ _ _ h => h) (by rfl) ?_ (by assumption) ?_
              rotate_left
              · (intro w hSw; (try dsimp only at hSw); go_simp; try with_reducible rfl)
              try simp only [Act.put, List.setIfInBounds_toArray, List.set_cons_zero, List.set_cons_succ]
              refine wpAnyH_done (by kernel_rfl) ?_ _
              go_wp2_with fail
              go_meet
              case rel =>
                refine ⟨g2, y11, z11, rfl, rfl, ?_⟩
                exact sep_take SD6 [0, 1, 2, 3, 4, 5, 6, 7, 8, 9, 14, 13] (by rfl) (by decide)
            exact AllReadyH.nil
          refine Reg.cons_op (i := 10) rfl (fun K hK => ?_) ?_
          · go_simp
            have SD3 := L4.push_box SD2 26 #[.slice none 0 0] wq2.heap.size rfl
            obtain ⟨g2, hg2⟩ : ∃ g2, g2 = wq2.heap.size := ⟨_, rfl⟩
            rw [← hg2] at SD3 ⊢
            clear hg2
            generalize wq2.alloc (.cells #[.slice none 0 0] 26) = wq3 at SD3 ⊢
            refine hK.out _ _ ⟨(L5.Row.one (L4.box_at SD3 0 rfl)).1, (L5.Row.one (L4.box_at SD3 1 rfl)).1, (L5.Row.one (L4.box_at SD3 2 rfl)).1⟩ (fun hS => ?_)
            clear hK K
            try simp only [Act.put, List.setIfInBounds_toArray, List.set_cons_zero, List.set_cons_succ]
            refine Reg.one_op (i := 5) rfl (by kernel_rfl) (fun K hK => ?_)
            go_simp
            go_at_call 24
            refine (L5.copyRec SD3 hR2 (by omega)).mono ?_
            rintro e wq4 ⟨yc2, zc2, rfl, hS⟩
            have SD4 := hS
            clear hS
            go_wp2_with fail
            refine hK.out _ _ ⟨(L5.Row.one (L4.box_at SD4 0 rfl)).1, (L5.Row.one (L4.box_at SD4 1 rfl)).1, (L5.Row.one (L4.box_at SD4 2 rfl)).1⟩ (fun hS => ?_)
            clear hK K
            try simp only [Act.put, List.setIfInBounds_toArray, List.set_cons_zero, List.set_cons_succ]
            refine Reg.one_op (i := 6) rfl (by kernel_rfl) (fun K hK => ?_)
            go_simp
            go_at_call 21
            refine (Cimpl.out _ _ _ _ _ _ _ (Sv.own_at SD4 10 rfl).reads (Sv.own_at SD4 10 rfl).cap (L5.own_zero (Sv.own_at SD4 10 rfl)) (Sv.own_at SD4 11 rfl).reads (Sv.own_at SD4 11 rfl).cap (L5.own_zero (Sv.own_at SD4 11 rfl)) (Sv.own_at SD4 13 rfl).reads (Sv.own_at SD4 13 rfl).cap (L5.own_zero (Sv.own_at SD4 13 rfl))).mono ?_
            rintro e wq5 ⟨y11, z11, rfl, ho, hb⟩
            have SD5 := Sv.push_own SD4 hb ho
            clear hb ho
            go_wp2_with fail
            refine hK.out _ _ ⟨(L5.Row.one (L4.box_at SD5 0 rfl)).1, (L5.Row.one (L4.box_at SD5 1 rfl)).1, (L5.Row.one (L4.box_at SD5 2 rfl)).1⟩ (fun hS => ?_)
            clear hK K
            try simp only [Act.put, List.setIfInBounds_toArray, List.set_cons_zero, List.set_cons_succ]
            refine Reg.take_op (i := 7) (v := ?_) rfl (by kernel_rfl) (by kernel_rfl) (by kernel_rfl) (fun _ _ _ h => h) (by rfl) ?_ (by assumption) ?_
            rotate_left
            · (intro w hSw; (try dsimp only at hSw); go_simp; try with_reducible rfl)
            try simp only [Act.put, List.setIfInBounds_toArray, List.set_cons_zero, List.set_cons_succ]
            refine Reg.take_op (i := 8) (v := ?_) rfl (by kernel_rfl) (by kernel_rfl) (by kernel_rfl) (fun _ _ _ h => h) (by rfl) ?_ (by assumption) ?_
            rotate_left
            · (intro w hSw; (try dsimp only at hSw); go_simp; try with_reducible rfl)
            try simp only [Act.put, List.setIfInBounds_toArray, List.set_cons_zero, List.set_cons_succ]
            refine Reg.take_op (i := 9) (v := ?_) rfl (by kernel_rfl) (by kernel_rfl) (by kernel_rfl) (fun _ _ _ h => h) (by rfl) ?_ (by assumption) ?_
            rotate_left
            · (intro w hSw; (try dsimp only at hSw); go_simp; try with_reducible rfl)
            try simp only [Act.put, List.setIfInBounds_toArray, List.set_cons_zero, List.set_cons_succ]
            refine Reg.one_op (i := 11) rfl (by kernel_rfl) (fun K hK => ?_)
            go_simp
            obtain ⟨z0, z1⟩ := L5.Row.one (L4.box_at SD5 12 rfl)
            have SD6 := L5.put_box5 SD5 12 rfl 0 (.slice y11 r0.length z11)
            go_simp
            refine hK.out _ _ ⟨(L5.Row.one (L4.box_at SD6 0 rfl)).1, (L5.Row.one (L4.box_at SD6 1 rfl)).1, (L5.Row.one (L4.box_at SD6 2 rfl)).1⟩ (fun hS => ?_)
            clear hK K
            try simp only [Act.put, List.setIfInBounds_toArray, List.set_cons_zero, List.set_cons_succ]
            refine Reg.take_op (i := 12) (v := ?_) rfl (by kernel_rfl) (by kernel_rfl) (by kernel_rfl) (fun _ _ _ h => h) (by rfl) ?_ (by assumption) ?_
            rotate_left
            · (intro w hSw; (try dsimp only at hSw); go_simp; try with_reducible rfl)
            try simp only [Act.put, List.setIfInBounds_toArray, List.set_cons_zero, List.set_cons_succ]
            refine wpAnyH_done (by kernel_rfl) ?_ _
            go_wp2_with fail
            go_meet
            case rel =>
              refine ⟨g2, y11, z11, rfl, rfl, ?_⟩
              exact sep_take SD6 [0, 1, 2, 3, 4, 5, 6, 7, 8, 9, 14, 12] (by rfl) (by decide)
          exact AllReadyH.nil
        refine Reg.cons_op (i := 10) rfl (fun K hK => ?_) ?_
        · go_simp
          have SD2 := L4.push_box SD1 26 #[.slice none 0 0] wq1.heap.size rfl
          obtain ⟨g2, hg2⟩ : ∃ g2, g2 = wq1.heap.size := ⟨_, rfl⟩
          rw [← hg2] at SD2 ⊢
          clear hg2
          generalize wq1.alloc (.cells #[.slice none 0 0] 26) = wq2 at SD2 ⊢
          refine hK.out _ _ ⟨(L5.Row.one (L4.box_at SD2 0 rfl)).1, (L5.Row.one (L4.box_at SD2 1 rfl)).1, (L5.Row.one (L4.box_at SD2 2 rfl)).1⟩ (fun hS => ?_)
          clear hK K
          try simp only [Act.put, List.setIfInBounds_toArray, List.set_cons_zero, List.set_cons_succ]
          refine Reg.one_op (i := 3) rfl (by kernel_rfl) (fun K hK => ?_)
          go_simp
          go_at_call 24
          refine (L5.copyRec SD2 hR1 (by omega)).mono ?_
          rintro e wq3 ⟨yc1, zc1, rfl, hS⟩
          have SD3 := hS
          clear hS
          go_wp2_with fail
          refine hK.out _ _ ⟨(L5.Row.one (L4.box_at SD3 0 rfl)).1, (L5.Row.one (L4.box_at SD3 1 rfl)).1, (L5.Row.one (L4.box_at SD3 2 rfl)).1⟩ (fun hS => ?_)
          clear hK K
          try simp only [Act.put, List.setIfInBounds_toArray, List.set_cons_zero, List.set_cons_succ]
          refine Reg.one_op (i := 5) rfl (by kernel_rfl) (fun K hK => ?_)
          go_simp
          go_at_call 24
          refine (L5.copyRec SD3 hR2 (by omega)).mono ?_
          rintro e wq4 ⟨yc2, zc2, rfl, hS⟩
          have SD4 := hS
          clear hS
          go_wp2_with fail
          refine hK.out _ _ ⟨(L5.Row.one (L4.box_at SD4 0 rfl)).1, (L5.Row.one (L4.box_at SD4 1 rfl)).1, (L5.Row.one (L4.box_at SD4 2 rfl)).1⟩ (fun hS => ?_)
          clear hK K
          try simp only [Act.put, List.setIfInBounds_toArray, List.set_cons_zero, List.set_cons_succ]
          refine Reg.one_op (i := 6) rfl (by kernel_rfl) (fun K hK => ?_)
          go_simp
          go_at_call 21
          refine (Cimpl.out _ _ _ _ _ _ _ (Sv.own_at SD4 10 rfl).reads (Sv.own_at SD4 10 rfl).cap (L5.own_zero (Sv.own_at SD4 10 rfl)) (Sv.own_at SD4 12 rfl).reads (Sv.own_at SD4 12 rfl).cap (L5.own_zero (Sv.own_at SD4 12 rfl)) (Sv.own_at SD4 13 rfl).reads (Sv.own_at SD4 13 rfl).cap (L5.own_zero (Sv.own_at SD4 13 rfl))).mono ?_
          rintro e wq5 ⟨y11, z11, rfl, ho, hb⟩
          have SD5 := Sv.push_own SD4 hb ho
          clear hb ho
          go_wp2_with fail
          refine hK.out _ _ ⟨(L5.Row.one (L4.box_at SD5 0 rfl)).1, (L5.Row.one (L4.box_at SD5 1 rfl)).1, (L5.Row.one (L4.box_at SD5 2 rfl)).1⟩ (fun hS => ?_)
          clear hK K
          try simp only [Act.put, List.setIfInBounds_toArray, List.set_cons_zero, List.set_cons_succ]
          refine Reg.take_op (i := 7) (v := ?_) rfl (by kernel_rfl) (by kernel_rfl) (by kernel_rfl) (fun _ _ _ h => h) (by rfl) ?_ (by assumption) ?_
          rotate_left
          · (intro w hSw; (try dsimp only at hSw); go_simp; try with_reducible rfl)
          try simp only [Act.put, List.setIfInBounds_toArray, List.set_cons_zero, List.set_cons_succ]
          refine Reg.take_op (i := 8) (v := ?_) rfl (by kernel_rfl) (by kernel_rfl) (by kernel_rfl) (fun _ _ _ h => h) (by rfl) ?_ (by assumption) ?_
          rotate_left
          · (intro w hSw; (try dsimp only at hSw); go_simp; try with_reducible rfl)
          try simp only [Act.put, List.setIfInBounds_toArray, List.set_cons_zero, List.set_cons_succ]
          refine Reg.take_op (i := 9) (v := ?_) rfl (by kernel_rfl) (by kernel_rfl) (by kernel_rfl) (fun _ _ _ h => h) (by rfl) ?_ (by assumption) ?_
          rotate_left
          · (intro w hSw; (try dsimp only at hSw); go_simp; try with_reducible rfl)
          try simp only [Act.put, List.setIfInBounds_toArray, List.set_cons_zero, List.set_cons_succ]
          refine Reg.one_op (i := 11) rfl (by kernel_rfl) (fun K hK => ?_)
          go_simp
          obtain ⟨z0, z1⟩ := L5.Row.one (L4.box_at SD5 11 rfl)
          have SD6 := L5.put_box5 SD5 11 rfl 0 (.slice y11 r0.length z11)
          go_simp
          refine hK.out _ _ ⟨(L5.Row.one (L4.box_at SD6 0 rfl)).1, (L5.Row.one (L4.box_at SD6 1 rfl)).1, (L5.Row.one (L4.box_at SD6 2 rfl)).1⟩ (fun hS => ?_)
          clear hK K
          try simp only [Act.put, List.setIfInBounds_toArray, List.set_cons_zero, List.set_cons_succ]
          refine Reg.take_op (i := 12) (v := ?_) rfl (by kernel_rfl) (by kernel_rfl) (by kernel_rfl) (fun _ _ _ h => h) (by rfl) ?_ (by assumption) ?_
          rotate_left
          · (intro w hSw; (try dsimp only at hSw); go_simp; try with_reducible rfl)
          try simp only [Act.put, List.setIfInBounds_toArray, List.set_cons_zero, List.set_cons_succ]
          refine wpAnyH_done (by kernel_rfl) ?_ _
          go_wp2_with fail
          go_meet
          case rel =>
            refine ⟨g2, y11, z11, rfl, rfl, ?_⟩
            exact sep_take SD6 [0, 1, 2, 3, 4, 5, 6, 7, 8, 9, 14, 11] (by rfl) (by decide)
        exact AllReadyH.nil
      refine Reg.cons_op (i := 10) rfl (fun K hK => ?_) ?_
      · go_simp
        have SD1 := L4.push_box SD0 26 #[.slice none 0 0] wd.heap.size rfl
        obtain ⟨g2, hg2⟩ : ∃ g2, g2 = wd.heap.size := ⟨_, rfl⟩
        rw [← hg2] at SD1 ⊢
        clear hg2
        generalize wd.alloc (.cells #[.slice none 0 0] 26) = wq1 at SD1 ⊢
        refine hK.out _ _ ⟨(L5.Row.one (L4.box_at SD1 0 rfl)).1, (L5.Row.one (L4.box_at SD1 1 rfl)).1, (L5.Row.one (L4.box_at SD1 2 rfl)).1⟩ (fun hS => ?_)
        clear hK K
        try simp only [Act.put, List.setIfInBounds_toArray, List.set_cons_zero, List.set_cons_succ]
        refine Reg.one_op (i := 1) rfl (by kernel_rfl) (fun K hK => ?_)
        go_simp
        go_at_call 24
        refine (L5.copyRec SD1 hR0 (by omega)).mono ?_
        rintro e wq2 ⟨yc0, zc0, rfl, hS⟩
        have SD2 := hS
        clear hS
        go_wp2_with fail
        refine hK.out _ _ ⟨(L5.Row.one (L4.box_at SD2 0 rfl)).1, (L5.Row.one (L4.box_at SD2 1 rfl)).1, (L5.Row.one (L4.box_at SD2 2 rfl)).1⟩ (fun hS => ?_)
        clear hK K
        try simp only [Act.put, List.setIfInBounds_toArray, List.set_cons_zero, List.set_cons_succ]
        refine Reg.one_op (i := 3) rfl (by kernel_rfl) (fun K hK => ?_)
        go_simp
        go_at_call 24
        refine (L5.copyRec SD2 hR1 (by omega)).mono ?_
        rintro e wq3 ⟨yc1, zc1, rfl, hS⟩
        have SD3 := hS
        clear hS
        go_wp2_with fail
        refine hK.out _ _ ⟨(L5.Row.one (L4.box_at SD3 0 rfl)).1, (L5.Row.one (L4.box_at SD3 1 rfl)).1, (L5.Row.one (L4.box_at SD3 2 rfl)).1⟩ (fun hS => ?_)
        clear hK K
        try simp only [Act.put, List.setIfInBounds_toArray, List.set_cons_zero, List.set_cons_succ]
        refine Reg.one_op (i := 5) rfl (by kernel_rfl) (fun K hK => ?_)
        go_simp
        go_at_call 24
        refine (L5.copyRec SD3 hR2 (by omega)).mono ?_
        rintro e wq4 ⟨yc2, zc2, rfl, hS⟩
        have SD4 := hS
        clear hS
        go_wp2_with fail
        refine hK.out _ _ ⟨(L5.Row.one (L4.box_at SD4 0 rfl)).1, (L5.Row.one (L4.box_at SD4 1 rfl)).1, (L5.Row.one (L4.box_at SD4 2 rfl)).1⟩ (fun hS => ?_)
        clear hK K
        try simp only [Act.put, List.setIfInBounds_toArray, List.set_cons_zero, List.set_cons_succ]
        refine Reg.one_op (i := 6) rfl (by kernel_rfl) (fun K hK => ?_)
        go_simp
        go_at_call 21
        refine (Cimpl.out _ _ _ _ _ _ _ (Sv.own_at SD4 11 rfl).reads (Sv.own_at SD4 11 rfl).cap (L5.own_zero (Sv.own_at SD4 11 rfl)) (Sv.own_at SD4 12 rfl).reads (Sv.own_at SD4 12 rfl).cap (L5.own_zero (Sv.own_at SD4 12 rfl)) (Sv.own_at SD4 13 rfl).reads (Sv.own_at SD4 13 rfl).cap (L5.own_zero (Sv.own_at SD4 13 rfl))).mono ?_
        rintro e wq5 ⟨y11, z11, rfl, ho, hb⟩
        have SD5 := Sv.push_own SD4 hb ho
        clear hb ho
        go_wp2_with fail
        refine hK.out _ _ ⟨(L5.Row.one (L4.box_at SD5 0 rfl)).1, (L5.Row.one (L4.box_at SD5 1 rfl)).1, (L5.Row.one (L4.box_at SD5 2 rfl)).1⟩ (fun hS => ?_)
        clear hK K
        try simp only [Act.put, List.setIfInBounds_toArray, List.set_cons_zero, List.set_cons_succ]
        refine Reg.take_op (i := 7) (v := ?_) rfl (by kernel_rfl) (by kernel_rfl) (by kernel_rfl) (fun _ _ _ h => h) (by rfl) ?_ (by assumption) ?_
        rotate_left
        · (intro w hSw; (try dsimp only at hSw); go_simp; try with_reducible rfl)
        try simp only [Act.put, List.setIfInBounds_toArray, List.set_cons_zero, List.set_cons_succ]
        refine Reg.take_op (i := 8) (v := ?_) rfl (by kernel_rfl) (by kernel_rfl) (by kernel_rfl) (fun _ _ _ h => h) (by rfl) ?_ (by assumption) ?_
        rotate_left
        · (intro w hSw; (try dsimp only at hSw); go_simp; try with_reducible rfl)
        try simp only [Act.put, List.setIfInBounds_toArray, List.set_cons_zero, List.set_cons_succ]
        refine Reg.take_op (i := 9) (v := ?_) rfl (by kernel_rfl) (by kernel_rfl) (by kernel_rfl) (fun _ _ _ h => h) (by rfl) ?_ (by assumption) ?_
        rotate_left
        · (intro w hSw; (try dsimp only at hSw); go_simp; try with_reducible rfl)
        try simp only [Act.put, List.setIfInBounds_toArray, List.set_cons_zero, List.set_cons_succ]
        refine Reg.one_op (i := 11) rfl (by kernel_rfl) (fun K hK => ?_)
        go_simp
        obtain ⟨z0, z1⟩ := L5.Row.one (L4.box_at SD5 10 rfl)
        have SD6 := L5.put_box5 SD5 10 rfl 0 (.slice y11 r0.length z11)
        go_simp
        refine hK.out _ _ ⟨(L5.Row.one (L4.box_at SD6 0 rfl)).1, (L5.Row.one (L4.box_at SD6 1 rfl)).1, (L5.Row.one (L4.box_at SD6 2 rfl)).1⟩ (fun hS => ?_)
        clear hK K
        try simp only [Act.put, List.setIfInBounds_toArray, List.set_cons_zero, List.set_cons_succ]
        refine Reg.take_op (i := 12) (v := ?_) rfl (by kernel_rfl) (by kernel_rfl) (by kernel_rfl) (fun _ _ _ h => h) (by rfl) ?_ (by assumption) ?_
        rotate_left
        · (intro w hSw; (try dsimp only at hSw); go_simp; try with_reducible rfl)
        try simp only [Act.put, List.setIfInBounds_toArray, List.set_cons_zero, List.set_cons_succ]
        refine wpAnyH_done (by kernel_rfl) ?_ _
        go_wp2_with fail
        go_meet
        case rel =>
          refine ⟨g2, y11, z11, rfl, rfl, ?_⟩
          exact sep_take SD6 [0, 1, 2, 3, 4, 5, 6, 7, 8, 9, 14, 10] (by rfl) (by decide)
      exact AllReadyH.nil
    case rest =>
      obtain ⟨g11', y11, z11, rfl, rfl, hq⟩ := hcut
      have S41 := hq.out
      clear hq S40
      clear f0 f1 f2 f4 f5 f6 f7 f9
      have f0 := (L5.Row.one (L4.box_at S41 0 rfl)).1
      have f1 := (L5.Row.one (L4.box_at S41 1 rfl)).1
      have f2 := (L5.Row.one (L4.box_at S41 2 rfl)).1
      have f4 := (L5.Row.one (L4.box_at S41 4 rfl)).1
      have f5 := (L5.Row.one (L4.box_at S41 5 rfl)).1
      have f6 := (L5.Row.one (L4.box_at S41 6 rfl)).1
      have f7 := (L5.Row.one (L4.box_at S41 7 rfl)).1
      have f9 := (L5.Row.one (L4.box_at S41 9 rfl)).1
      have f11 := (L5.Row.one (L4.box_at S41 11 rfl)).1
      go_wp2_with fail
      go_at_call 25
      refine (L5.eqRec S41 10 3 rfl rfl (by omega)).mono ?_
      rintro e w15 ⟨rfl, hS⟩
      clear f0 f1 f2 f4 f5 f6 f7 f9 f11
      have S42 := hS
      clear hS
      clear S41
      have f0 := (L5.Row.one (L4.box_at S42 0 rfl)).1
      have f1 := (L5.Row.one (L4.box_at S42 1 rfl)).1
      have f2 := (L5.Row.one (L4.box_at S42 2 rfl)).1
      have f4 := (L5.Row.one (L4.box_at S42 4 rfl)).1
      have f5 := (L5.Row.one (L4.box_at S42 5 rfl)).1
      have f6 := (L5.Row.one (L4.box_at S42 6 rfl)).1
      have f7 := (L5.Row.one (L4.box_at S42 7 rfl)).1
      have f9 := (L5.Row.one (L4.box_at S42 9 rfl)).1
      have f11 := (L5.Row.one (L4.box_at S42 11 rfl)).1
      go_wp2_with fail
      go_at_call 27
      refine (L5.heldRec S42 8 _ rfl (by omega) (by omega) (by omega)).mono ?_
      rintro e w16 ⟨rfl, hS⟩
      clear f0 f1 f2 f4 f5 f6 f7 f9 f11
      have S43 := hS
      clear hS
      clear S42
      have f0 := (L5.Row.one (L4.box_at S43 0 rfl)).1
      have f1 := (L5.Row.one (L4.box_at S43 1 rfl)).1
      have f2 := (L5.Row.one (L4.box_at S43 2 rfl)).1
      have f4 := (L5.Row.one (L4.box_at S43 4 rfl)).1
      have f5 := (L5.Row.one (L4.box_at S43 5 rfl)).1
      have f6 := (L5.Row.one (L4.box_at S43 6 rfl)).1
      have f7 := (L5.Row.one (L4.box_at S43 7 rfl)).1
      have f9 := (L5.Row.one (L4.box_at S43 9 rfl)).1
      have f11 := (L5.Row.one (L4.box_at S43 11 rfl)).1
      go_wp2_with fail
      go_ret
      exact ⟨rfl, S43.old⟩

set_option maxRecDepth 100000 in
theorem lifted (os : Os) (started : os.Started) (H : Type) (enc : TypeId × Value → H) :
    ReturnsInHanded {} Try.checked os 7 .any (Rows.fnExactMergeRecordsSpec.pre6 enc Try.prog Try.f7 Rows.fnExactMergeRecordsRow.domain false) (Rows.fnExactMergeRecordsSpec.post enc Try.prog Try.f7 false true false false) := by
  refine returnsInHanded_of_change_sized (C := Try.checked) own started (by kernel_rfl) Try.func7
    (ChangeSpec.witness6 (enc := enc) (C := Try.checked) false ⟨#[], #[.agg #[.slice none 0 0], .agg #[.slice none 0 0], .agg #[.slice none 0 0]], []⟩ 8 (by kernel_rfl) (by kernel_rfl) (by kernel_rfl) (by kernel_rfl)) ?_
  intro W base args ds gs before hval0 hW _ hsz0 _
  have hval : ∀ (j : Nat) t v, Try.f7.params[j]? = some t → args[j]? = some v → Value.okWide Try.prog W .any base t v := hval0
  have hW' := hW
  obtain ⟨p, q, hA0, hV, rfl, _, _⟩ := hW
  have hA : DataW.TrodAll enc Try.prog W 0 (fun _ => true) true Try.f7.params.toList args.toList ds p := hA0
  obtain ⟨rfl, rfl⟩ := trodVars_none hV
  have hlt : ∀ x ∈ p, x.block < W.heap.size := fun x hx => hW'.lt x (by simpa using hx)
  simp only [List.append_nil] at hW'
  have hw := walk H enc W base args ds p hval hA hlt hsz0
  have hA1 := hA
  clear hA0 hval0 hsz0 hval hlt
  rw [Try.params7] at hA
  obtain ⟨v0, vs0, d0, ds0, p0, q0, e0, rfl, rfl, h0, hr0⟩ := trodAll_cons hA
  obtain ⟨v1, vs1, d1, ds1, p1, q1, e1, rfl, rfl, h1, hr1⟩ := trodAll_cons hr0
  obtain ⟨v2, vs2, d2, ds2, p2, q2, e2, rfl, rfl, h2, hr2⟩ := trodAll_cons hr1
  obtain ⟨e3, rfl, rfl⟩ := trodAll_nil hr2
  refine hw.mono fun e W' ⟨he, hb⟩ => ?_
  subst he
  exact ⟨_, rfl, Frame.law_post (tb := 4) rfl hW' hA1 rfl rfl rfl laidOut (by kernel_rfl) (by kernel_rfl) Try.underlying4 hb⟩

theorem holds : Rows.FnExactMergeRecordsSaid :=
  OpenClaim.holds_of_wide 7 Try.f7 rfl rfl rfl rfl rfl rfl rfl ⟨rfl, rfl, rfl, rfl, rfl⟩ rfl rfl rfl rfl rfl (by kernel_rfl) Try.func7 (by kernel_rfl)
    (of_decide_eq_true (by kernel_rfl)) (by unfold Func.isWrapper; first | (rw [if_pos (by decide +kernel)]; kernel_rfl) | (rw [if_neg (by decide +kernel)]; exact ⟨rfl, rfl⟩))
    (fun os started H enc _ => lifted os started H enc)

#print axioms holds
end Go.Proofs.Ytephiilicebdcaa.lawFnExactMergeRecords
