/-
  The law FnKeys answers true for every argument, and leaves its arguments as they were. Condition: the package-level variables that the row lists read as listed when the call begins; the card ties them to the program's text.
  (The frame is written by my program mk_law.py.)
-/
import Derived.Test.YtenmdecooamaaaaDoorFrame
import Derived.SizedLaws
import Derived.LaidLaws
import Derived.ShutString
import Derived.Stop.LaidErr
import Derived.Lib.LaidTab
import Derived.Test.YtenmdecooamaaaaDoorSd4d
import Derived.Test.YtenmdecooamaaaaDoorL4Pk
import Derived.Stop.LaidErr
import Derived.Test.YtenmdecooamaaaaDoorL1Impl
import Derived.Test.YtenmdecooamaaaaDoorL4Im4
import Derived.Test.YtenmdecooamaaaaDoorL4Im5
import Derived.Test.YtenmdecooamaaaaDoorL4Iy
import Derived.Deep.RegionHeld3
import Derived.Deep.DeepCutAuto
import Derived.LaidMore
import Derived.Stop.Joined
import Derived.SevenTiedAt
import Derived.Test.YtenmdecooamaaaaDoorCards
import Derived.Test.YtenmdecooamaaaaDoorTie
namespace Go.Proofs.YtenmdecooamaaaaDoor.lawFnKeys
open Go.ChangeShapes Go.WideShapes Go.ChangeAt Go.RowKit
open Go.ChangeMaps (open_string shut_string)
set_option linter.unusedVariables false
theorem own : ownKnob Tryd.prog.godebug = none := by kernel_rfl
theorem laidOut : laidOutB Tryd.prog = true := by kernel_rfl
open Mem Sl Ex Sd L2 L4
theorem star : "*" ++ "errors.errorString" = "*errors.errorString" := by decide
theorem rowES (u : TypeId) (h : Tryd.prog.typeName? 3 u = some "*errors.errorString") : u = 95 :=
  typeName_ptr_named (nm := "errors.errorString") (by rw [star]; kernel_rfl) (by kernel_rfl) (by decide) u (by rw [star]; exact h)
theorem tab_of (W : World) (h : laidMetH Tryd.prog Rows.fnKeysRow.laid W) : L1.Tab W ∧ L1.Sents W := by
  rw [MakeChecks.laidMetH_plain _ _ _ (by kernel_rfl)] at h
  refine ⟨Lib.tabIs_of_head (rest := [_, _]) (g := 3) (by kernel_rfl) (by kernel_rfl) Tryd.underlying104 Tryd.underlying84 (by kernel_rfl) (by kernel_rfl) h.tail.tail, ?_, ?_⟩
  · obtain ⟨a, s, hv, -, -, -⟩ := laid_sentinel (g := 1) (tp := 95) h.tail.tail.tail.tail (by kernel_rfl) (by kernel_rfl) Tryd.underlying55 rowES Tryd.underlying95 Tryd.underlying97 rfl rfl Tryd.underlying9 (by kernel_rfl) (by kernel_rfl)
    exact ⟨_, _, hv⟩
  · obtain ⟨a, s, hv, -, -, -⟩ := laid_sentinel (g := 2) (tp := 95) h.tail.tail.tail (by kernel_rfl) (by kernel_rfl) Tryd.underlying55 rowES Tryd.underlying95 Tryd.underlying97 rfl rfl Tryd.underlying9 (by kernel_rfl) (by kernel_rfl)
    exact ⟨_, _, hv⟩
set_option maxRecDepth 100000 in
set_option maxHeartbeats 8000000 in
theorem walk (H : Type) (enc : TypeId × Value → H) (W : World) (base : Nat) (args : Array Value) (ds : List (DataW H)) (p : List MemPlace)
    (hval : ∀ (j : Nat) t v, Tryd.f3.params[j]? = some t → args[j]? = some v → Value.okWide Tryd.prog W .any base t v)
    (hA : DataW.TrodAll enc Tryd.prog W 0 (fun _ => true) true Tryd.f3.params.toList args.toList ds p)
    (hlt : ∀ x ∈ p, x.block < W.heap.size)
    (hsz : (DataW.weightsEach Tryd.prog (Tryd.f3.params.toList ++ Rows.fnKeysSpec.plain.varTypes Tryd.prog) (ds ++ [])).all (· ≤ reachBytes) = true)
    (hL : laidMetH Tryd.prog Rows.fnKeysRow.laid W) :
    Calls Tryd.prog 3 args W fun e w' => e = .returned (.bool true) ∧ Below W.heap.size W w' := by
  rw [Tryd.params3] at hA hval hsz
  obtain ⟨v0, d0, rfl, rfl, h0⟩ := trodAll_one hA
  obtain ⟨a0, l0, c0, rfl, hC0, -, hR0, hW0⟩ := Law.open_list Tryd.underlying22 Tryd.underlying5 (by kernel_rfl) (hval 0 22 v0 rfl rfl) h0 hlt
  have hby : Mem.Bytes W W.heap.size a0 l0.length := fun j hj => by
    obtain ⟨ad, he, hb, hc⟩ := hR0.int j hj
    have := Law.wf_u8 (hW0 l0[j] (List.getElem_mem hj))
    exact ⟨ad, _, he, hb, hc, this.1, this.2⟩
  obtain ⟨n0, hn0⟩ : ∃ n, n = l0.length := ⟨_, rfl⟩
  rw [← hn0] at hby hC0 ⊢
  have HTS := Lib.hid (tab_of W hL)
  clear hL hn0 hR0 hW0 hA hval hlt hsz h0
  have S0 := Sl.Sep.start W
  by_cases hbig : n0 > 1048576
  · go_enter Tryd.func3, Tryd.ntmps3
    go_wp2_with (go_at_call 6; refine (big_s _ S0).mono ?_; rw [decide_eq_true hbig]; rintro e w1 ⟨rfl, S1⟩)
    go_ret
    exact ⟨rfl, S1.old⟩
  · have hsm : n0 ≤ 4611686018427387904 := by omega
    have hsm2 : n0 ≤ 1048576 := by omega
    go_enter Tryd.func3, Tryd.ntmps3
    go_wp2_with fail
    go_at_call 6
    refine (big_s _ S0).mono ?_
    rw [decide_eq_false hbig]
    rintro e w1 ⟨rfl, S1⟩
    clear S0
    go_wp2_with fail
    go_at_call 7
    refine (drawThreeKeys_s _ hsm hby S1).mono ?_
    rintro e w2 ⟨⟨ka, na, sa⟩, ⟨kb, nb, sb⟩, ⟨kc, nc, sc⟩, rfl, ⟨⟨ga, ta⟩, ⟨gb, tb⟩, gc, tc⟩, S2⟩
    clear S1
    obtain ⟨A, hA⟩ : ∃ g, g = w2.heap.size := ⟨_, rfl⟩
    obtain ⟨wA, hwA⟩ : ∃ u, u = ((w2.alloc (.cells #[.int .i64 ka, .int .i64 na, .string sa] 25)).alloc (.cells #[.int .i64 kb, .int .i64 nb, .string sb] 25)).alloc (.cells #[.int .i64 kc, .int .i64 nc, .string sc] 25) := ⟨_, rfl⟩
    have S3 : Sl.Sep W wA [boxR A 25 #[.int .i64 ka, .int .i64 na, .string sa], boxR (A + 1) 25 #[.int .i64 kb, .int .i64 nb, .string sb], boxR (A + 1 + 1) 25 #[.int .i64 kc, .int .i64 nc, .string sc]] := by
      rw [hwA]
      exact push_box (push_box (push_box S2 _ _ _ hA) _ _ _ (by simp [hA])) _ _ _ (by simp [hA])
    obtain ⟨f0_0, f0_1, f0_2⟩ := box3 S3 0 rfl
    obtain ⟨f1_0, f1_1, f1_2⟩ := box3 S3 1 rfl
    obtain ⟨f2_0, f2_1, f2_2⟩ := box3 S3 2 rfl
    have ha : isK ⟨ka, na, sa⟩ = true := isK_iff.2 ga
    have hb : isK ⟨kb, nb, sb⟩ = true := isK_iff.2 gb
    have hc : isK ⟨kc, nc, sc⟩ = true := isK_iff.2 gc
    have ta' : sa.size ≤ 12 := ta
    have tb' : sb.size ≤ 12 := tb
    have tc' : sc.size ≤ 12 := tc
    obtain ⟨m, hm⟩ : ∃ m, cmpK ⟨ka, na, sa⟩ ⟨kb, nb, sb⟩ = m := ⟨_, rfl⟩
    obtain ⟨m2, hm2⟩ : ∃ m, cmpK ⟨kb, nb, sb⟩ ⟨kc, nc, sc⟩ = m := ⟨_, rfl⟩
    obtain ⟨m3, hm3⟩ : ∃ m, cmpK ⟨ka, na, sa⟩ ⟨kc, nc, sc⟩ = m := ⟨_, rfl⟩
    have C1 := fun w => implCompareKeys_any ⟨ka, na, sa⟩ ⟨kb, nb, sb⟩ (by show sa.size ≤ _; omega) (by show sb.size ≤ _; omega) w
    have C2 := fun w => implCompareKeys_any ⟨kb, nb, sb⟩ ⟨ka, na, sa⟩ (by show sb.size ≤ _; omega) (by show sa.size ≤ _; omega) w
    have C3 := fun w => implCompareKeys_any ⟨kb, nb, sb⟩ ⟨kc, nc, sc⟩ (by show sb.size ≤ _; omega) (by show sc.size ≤ _; omega) w
    have C4 := fun w => implCompareKeys_any ⟨ka, na, sa⟩ ⟨kc, nc, sc⟩ (by show sa.size ≤ _; omega) (by show sc.size ≤ _; omega) w
    have E1 := fun w => implEncodeKey_any ⟨ka, na, sa⟩ (by show sa.size ≤ _; omega) w
    have E2 := fun w => implEncodeKey_any ⟨kb, nb, sb⟩ (by show sb.size ≤ _; omega) w
    have F2 := fun w ht => implFormatKey_any ⟨kb, nb, sb⟩ (by show sb.size ≤ _; omega) w ht
    rw [hm] at C1
    rw [cmpK_swap, hm] at C2
    rw [hm3] at C4
    rw [hm2] at C3
    obtain ⟨m0, m1⟩ : -1 ≤ m ∧ m ≤ 1 := by rw [← hm]; exact cmpK_range _ _
    obtain ⟨m20, m21⟩ : -1 ≤ m2 ∧ m2 ≤ 1 := by rw [← hm2]; exact cmpK_range _ _
    obtain ⟨m30, m31⟩ : -1 ≤ m3 ∧ m3 ≤ 1 := by rw [← hm3]; exact cmpK_range _ _
    have HM := Lib.hid (show cmpL (encU ⟨ka, na, sa⟩) (encU ⟨kb, nb, sb⟩) = m by rw [cmp_enc ha hb]; exact hm)
    have HT := Lib.hid (show m ≤ 0 → m2 ≤ 0 → m3 ≤ 0 by rw [← hm, ← hm2, ← hm3]; exact cmpK_trans ha hb hc)
    have HZ := Lib.hid (show m = 0 ↔ (⟨ka, na, sa⟩ : K) = ⟨kb, nb, sb⟩ by rw [← hm]; exact cmpK_zero ha hb)
    have HI := Lib.hid (And.intro ha (And.intro hb hc))
    simp only [K.v] at C1 C2 C3 C4 E1 E2 F2
    replace C1 := Lib.hid C1
    replace C2 := Lib.hid C2
    replace C3 := Lib.hid C3
    replace C4 := Lib.hid C4
    replace E1 := Lib.hid E1
    replace E2 := Lib.hid E2
    replace F2 := Lib.hid F2
    clear ga gb gc ta tb tc hm hm2 hm3 ha hb hc
    simp only [K.v]
    go_wp2_with fail
    go_at_call 8
    rw [← hwA, ← hA]
    clear hwA hA S2
    refine (C1.out _).mono ?_
    rintro e w4 ⟨rfl, hb⟩
    have S4 := S3.keep hb
    have CB := Lib.hid (show ∀ (w : World) (a1 a2 : Option Addr) (c1 c2 : Nat) (x1 x2 : List Int), Reads w w.heap.size a1 (ints .u8 x1) → Reads w w.heap.size a2 (ints .u8 x2) → x1 = toI (encU ⟨ka, na, sa⟩) → x2 = toI (encU ⟨kb, nb, sb⟩) → Calls Tryd.prog 9 #[.slice a1 x1.length c1, .slice a2 x2.length c2] w fun e w' => e = .returned (.int .i64 m) ∧ Drew w w' by
      intro w a1 a2 c1 c2 x1 x2 h1 h2 e1 e2
      have CB := implCompareBytes_any a1 a2 c1 c2 x1 x2 w _ h1 h2
      rw [show cmpL (toU x1) (toU x2) = m by rw [e1, e2, toU_toI, toU_toI]; exact HM.out] at CB
      exact CB)
    clear S3 hb f0_0 f0_1 f0_2 f1_0 f1_1 f1_2 f2_0 f2_1 f2_2
    obtain ⟨f0_0, f0_1, f0_2⟩ := box3 S4 0 rfl
    obtain ⟨f1_0, f1_1, f1_2⟩ := box3 S4 1 rfl
    obtain ⟨f2_0, f2_1, f2_2⟩ := box3 S4 2 rfl
    have hw0 : IntKind.i64.wrap 0 = 0 := by rfl
    have hwm : IntKind.i64.wrap (-m) = -m := IntWalk.i64_in _ ⟨by omega, by omega⟩
    go_upto_region 5 with fail
    go_cut [49] (fun z wx => z = .bool false ∧ Hid (Sl.Sep W wx [boxR A 25 #[.int .i64 ka, .int .i64 na, .string sa], boxR (A + 1) 25 #[.int .i64 kb, .int .i64 nb, .string sb], boxR (A + 1 + 1) 25 #[.int .i64 kc, .int .i64 nc, .string sc]]))
    case first =>
      by_cases hm0 : m = 0
      · have hK := HZ.out.1 hm0
        have hk1 : ka = kb := congrArg K.kind hK
        have hk2 : na = nb := congrArg K.n hK
        have hk3 : sa = sb := congrArg K.text hK
        subst hk1 hk2 hk3 hm0
        clear hK hwm
        go_region_held3 (fun w' => w'.cell? ⟨A, 0, none⟩ = some (.int .i64 ka) ∧ w'.cell? ⟨A, 1, none⟩ = some (.int .i64 na) ∧ w'.cell? ⟨A, 2, none⟩ = some (.string sa) ∧ w'.cell? ⟨A + 1, 0, none⟩ = some (.int .i64 ka) ∧ w'.cell? ⟨A + 1, 1, none⟩ = some (.int .i64 na) ∧ w'.cell? ⟨A + 1, 2, none⟩ = some (.string sa)) (first | exact ⟨f0_0, f0_1, f0_2, f1_0, f1_1, f1_2⟩ | go_keep)
          (first
      | (go_at_call 10; with_reducible refine (gave (drew_s S4) (E1.out _)).mono ?_; rintro e ww ⟨a1, c1, x1, rfl, hx1, S5⟩; obtain ⟨f0_0, f0_1, f0_2⟩ := box3 S5 0 rfl; obtain ⟨f1_0, f1_1, f1_2⟩ := box3 S5 1 rfl; obtain ⟨f2_0, f2_1, f2_2⟩ := box3 S5 2 rfl)
      | (go_at_call 10; with_reducible refine (gave S5 (E2.out _)).mono ?_; rintro e ww ⟨a2, c2, x2, rfl, hx2, S6⟩; obtain ⟨f0_0, f0_1, f0_2⟩ := box3 S6 0 rfl; obtain ⟨f1_0, f1_1, f1_2⟩ := box3 S6 1 rfl; obtain ⟨f2_0, f2_1, f2_2⟩ := box3 S6 2 rfl)
      | (go_at_call 9; refine (CB.out _ _ _ _ _ _ _ (S6.own 3 rfl).reads (S6.own 4 rfl).reads hx1.out hx2.out).mono ?_; rintro e ww ⟨rfl, hd⟩; have S7 := S6.keep (hd.below _); obtain ⟨f0_0, f0_1, f0_2⟩ := box3 S7 0 rfl; obtain ⟨f1_0, f1_1, f1_2⟩ := box3 S7 1 rfl; obtain ⟨f2_0, f2_1, f2_2⟩ := box3 S7 2 rfl)
      | (go_at_call 8; with_reducible refine (C2.out _).mono ?_; rintro e ww ⟨rfl, hb⟩; have S8 := S7.keep hb; obtain ⟨f0_0, f0_1, f0_2⟩ := box3 S8 0 rfl; obtain ⟨f1_0, f1_1, f1_2⟩ := box3 S8 1 rfl; obtain ⟨f2_0, f2_1, f2_2⟩ := box3 S8 2 rfl))
        all_goals
          have HS := Lib.hid (drop1 (drop1 S8))
          clear S4 S5 S6 S7 S8
          go_wp2_with fail
          go_meet
          case rel => exact ⟨rfl, HS.out⟩
      · clear hw0
        have hmb : (m == 0) = false := by simp [hm0]
        have hnk : ¬ (ka = kb ∧ na = nb ∧ sa = sb) := fun ⟨h1, h2, h3⟩ => hm0 (HZ.out.2 (by rw [h1, h2, h3]))
        by_cases hk1 : ka = kb
        · subst hk1
          by_cases hk2 : na = nb
          · subst hk2
            have hk3 : (sa.toList == sb.toList) = false := by
              rw [beq_eq_false_iff_ne]
              intro h
              exact hnk ⟨rfl, rfl, ba_ext (by rw [← ByteArray.toList_eq, ← ByteArray.toList_eq]; exact h)⟩
            clear hnk
            go_region_held3 (fun w' => w'.cell? ⟨A, 0, none⟩ = some (.int .i64 ka) ∧ w'.cell? ⟨A, 1, none⟩ = some (.int .i64 na) ∧ w'.cell? ⟨A, 2, none⟩ = some (.string sa) ∧ w'.cell? ⟨A + 1, 0, none⟩ = some (.int .i64 ka) ∧ w'.cell? ⟨A + 1, 1, none⟩ = some (.int .i64 na) ∧ w'.cell? ⟨A + 1, 2, none⟩ = some (.string sb)) (first | exact ⟨f0_0, f0_1, f0_2, f1_0, f1_1, f1_2⟩ | go_keep)
              (first
      | (go_at_call 10; with_reducible refine (gave (drew_s S4) (E1.out _)).mono ?_; rintro e ww ⟨a1, c1, x1, rfl, hx1, S5⟩; obtain ⟨f0_0, f0_1, f0_2⟩ := box3 S5 0 rfl; obtain ⟨f1_0, f1_1, f1_2⟩ := box3 S5 1 rfl; obtain ⟨f2_0, f2_1, f2_2⟩ := box3 S5 2 rfl)
      | (go_at_call 10; with_reducible refine (gave S5 (E2.out _)).mono ?_; rintro e ww ⟨a2, c2, x2, rfl, hx2, S6⟩; obtain ⟨f0_0, f0_1, f0_2⟩ := box3 S6 0 rfl; obtain ⟨f1_0, f1_1, f1_2⟩ := box3 S6 1 rfl; obtain ⟨f2_0, f2_1, f2_2⟩ := box3 S6 2 rfl)
      | (go_at_call 9; refine (CB.out _ _ _ _ _ _ _ (S6.own 3 rfl).reads (S6.own 4 rfl).reads hx1.out hx2.out).mono ?_; rintro e ww ⟨rfl, hd⟩; have S7 := S6.keep (hd.below _); obtain ⟨f0_0, f0_1, f0_2⟩ := box3 S7 0 rfl; obtain ⟨f1_0, f1_1, f1_2⟩ := box3 S7 1 rfl; obtain ⟨f2_0, f2_1, f2_2⟩ := box3 S7 2 rfl)
      | (go_at_call 8; with_reducible refine (C2.out _).mono ?_; rintro e ww ⟨rfl, hb⟩; have S8 := S7.keep hb; obtain ⟨f0_0, f0_1, f0_2⟩ := box3 S8 0 rfl; obtain ⟨f1_0, f1_1, f1_2⟩ := box3 S8 1 rfl; obtain ⟨f2_0, f2_1, f2_2⟩ := box3 S8 2 rfl))
            all_goals
              have HS := Lib.hid (drop1 (drop1 S8))
              clear S4 S5 S6 S7 S8
              go_wp2_with fail
              go_meet
              case rel => exact ⟨rfl, HS.out⟩
          · have hk3 : (na == nb) = false := by simp [hk2]
            clear hnk
            go_region_held3 (fun w' => w'.cell? ⟨A, 0, none⟩ = some (.int .i64 ka) ∧ w'.cell? ⟨A, 1, none⟩ = some (.int .i64 na) ∧ w'.cell? ⟨A, 2, none⟩ = some (.string sa) ∧ w'.cell? ⟨A + 1, 0, none⟩ = some (.int .i64 ka) ∧ w'.cell? ⟨A + 1, 1, none⟩ = some (.int .i64 nb) ∧ w'.cell? ⟨A + 1, 2, none⟩ = some (.string sb)) (first | exact ⟨f0_0, f0_1, f0_2, f1_0, f1_1, f1_2⟩ | go_keep)
              (first
      | (go_at_call 10; with_reducible refine (gave (drew_s S4) (E1.out _)).mono ?_; rintro e ww ⟨a1, c1, x1, rfl, hx1, S5⟩; obtain ⟨f0_0, f0_1, f0_2⟩ := box3 S5 0 rfl; obtain ⟨f1_0, f1_1, f1_2⟩ := box3 S5 1 rfl; obtain ⟨f2_0, f2_1, f2_2⟩ := box3 S5 2 rfl)
      | (go_at_call 10; with_reducible refine (gave S5 (E2.out _)).mono ?_; rintro e ww ⟨a2, c2, x2, rfl, hx2, S6⟩; obtain ⟨f0_0, f0_1, f0_2⟩ := box3 S6 0 rfl; obtain ⟨f1_0, f1_1, f1_2⟩ := box3 S6 1 rfl; obtain ⟨f2_0, f2_1, f2_2⟩ := box3 S6 2 rfl)
      | (go_at_call 9; refine (CB.out _ _ _ _ _ _ _ (S6.own 3 rfl).reads (S6.own 4 rfl).reads hx1.out hx2.out).mono ?_; rintro e ww ⟨rfl, hd⟩; have S7 := S6.keep (hd.below _); obtain ⟨f0_0, f0_1, f0_2⟩ := box3 S7 0 rfl; obtain ⟨f1_0, f1_1, f1_2⟩ := box3 S7 1 rfl; obtain ⟨f2_0, f2_1, f2_2⟩ := box3 S7 2 rfl)
      | (go_at_call 8; with_reducible refine (C2.out _).mono ?_; rintro e ww ⟨rfl, hb⟩; have S8 := S7.keep hb; obtain ⟨f0_0, f0_1, f0_2⟩ := box3 S8 0 rfl; obtain ⟨f1_0, f1_1, f1_2⟩ := box3 S8 1 rfl; obtain ⟨f2_0, f2_1, f2_2⟩ := box3 S8 2 rfl))
            all_goals
              have HS := Lib.hid (drop1 (drop1 S8))
              clear S4 S5 S6 S7 S8
              go_wp2_with fail
              go_meet
              case rel => exact ⟨rfl, HS.out⟩
        · have hk3 : (ka == kb) = false := by simp [hk1]
          clear hnk
          go_region_held3 (fun w' => w'.cell? ⟨A, 0, none⟩ = some (.int .i64 ka) ∧ w'.cell? ⟨A, 1, none⟩ = some (.int .i64 na) ∧ w'.cell? ⟨A, 2, none⟩ = some (.string sa) ∧ w'.cell? ⟨A + 1, 0, none⟩ = some (.int .i64 kb) ∧ w'.cell? ⟨A + 1, 1, none⟩ = some (.int .i64 nb) ∧ w'.cell? ⟨A + 1, 2, none⟩ = some (.string sb)) (first | exact ⟨f0_0, f0_1, f0_2, f1_0, f1_1, f1_2⟩ | go_keep)
            (first
      | (go_at_call 10; with_reducible refine (gave (drew_s S4) (E1.out _)).mono ?_; rintro e ww ⟨a1, c1, x1, rfl, hx1, S5⟩; obtain ⟨f0_0, f0_1, f0_2⟩ := box3 S5 0 rfl; obtain ⟨f1_0, f1_1, f1_2⟩ := box3 S5 1 rfl; obtain ⟨f2_0, f2_1, f2_2⟩ := box3 S5 2 rfl)
      | (go_at_call 10; with_reducible refine (gave S5 (E2.out _)).mono ?_; rintro e ww ⟨a2, c2, x2, rfl, hx2, S6⟩; obtain ⟨f0_0, f0_1, f0_2⟩ := box3 S6 0 rfl; obtain ⟨f1_0, f1_1, f1_2⟩ := box3 S6 1 rfl; obtain ⟨f2_0, f2_1, f2_2⟩ := box3 S6 2 rfl)
      | (go_at_call 9; refine (CB.out _ _ _ _ _ _ _ (S6.own 3 rfl).reads (S6.own 4 rfl).reads hx1.out hx2.out).mono ?_; rintro e ww ⟨rfl, hd⟩; have S7 := S6.keep (hd.below _); obtain ⟨f0_0, f0_1, f0_2⟩ := box3 S7 0 rfl; obtain ⟨f1_0, f1_1, f1_2⟩ := box3 S7 1 rfl; obtain ⟨f2_0, f2_1, f2_2⟩ := box3 S7 2 rfl)
      | (go_at_call 8; with_reducible refine (C2.out _).mono ?_; rintro e ww ⟨rfl, hb⟩; have S8 := S7.keep hb; obtain ⟨f0_0, f0_1, f0_2⟩ := box3 S8 0 rfl; obtain ⟨f1_0, f1_1, f1_2⟩ := box3 S8 1 rfl; obtain ⟨f2_0, f2_1, f2_2⟩ := box3 S8 2 rfl))
          all_goals
            have HS := Lib.hid (drop1 (drop1 S8))
            clear S4 S5 S6 S7 S8
            go_wp2_with fail
            go_meet
            case rel => exact ⟨rfl, HS.out⟩
    case rest =>
      obtain ⟨rfl, HS9⟩ := hcut
      have S9 := HS9.out
      clear S4 HS9
      clear f0_0 f0_1 f0_2 f1_0 f1_1 f1_2 f2_0 f2_1 f2_2
      obtain ⟨f0_0, f0_1, f0_2⟩ := box3 S9 0 rfl
      obtain ⟨f1_0, f1_1, f1_2⟩ := box3 S9 1 rfl
      obtain ⟨f2_0, f2_1, f2_2⟩ := box3 S9 2 rfl
      go_upto_region 7 with fail
      go_cut [63] (fun z wx => z = .bool false ∧ Hid (Sl.Sep W wx [boxR A 25 #[.int .i64 ka, .int .i64 na, .string sa], boxR (A + 1) 25 #[.int .i64 kb, .int .i64 nb, .string sb], boxR (A + 1 + 1) 25 #[.int .i64 kc, .int .i64 nc, .string sc]]))
      case first =>
        by_cases q1 : m ≤ 0
        · have qb1 : decide (m ≤ 0) = true := decide_eq_true q1
          by_cases q2 : m2 ≤ 0
          · have qb2 : decide (m2 ≤ 0) = true := decide_eq_true q2
            have q3 : ¬ 0 < m3 := by have := HT.out q1 q2; omega
            have qb3 : decide (0 < m3) = false := decide_eq_false q3
            go_wp2_with fail
            go_at_call 8
            with_reducible refine (C3.out _).mono ?_
            rintro e w10 ⟨rfl, hb⟩
            have S10 := S9.keep hb
            clear f0_0 f0_1 f0_2 f1_0 f1_1 f1_2 f2_0 f2_1 f2_2
            obtain ⟨f0_0, f0_1, f0_2⟩ := box3 S10 0 rfl
            obtain ⟨f1_0, f1_1, f1_2⟩ := box3 S10 1 rfl
            obtain ⟨f2_0, f2_1, f2_2⟩ := box3 S10 2 rfl
            go_wp2_with fail
            go_at_call 8
            with_reducible refine (C4.out _).mono ?_
            rintro e w11 ⟨rfl, hb2⟩
            have HS := Lib.hid (S10.keep hb2)
            clear S9 S10
            go_wp2_with fail
            go_meet
            case rel => exact ⟨rfl, HS.out⟩
          · have qb2 : decide (m2 ≤ 0) = false := decide_eq_false q2
            go_wp2_with fail
            go_at_call 8
            with_reducible refine (C3.out _).mono ?_
            rintro e w10 ⟨rfl, hb⟩
            have HS := Lib.hid (S9.keep hb)
            clear S9
            go_wp2_with fail
            go_meet
            case rel => exact ⟨rfl, HS.out⟩
        · have qb1 : decide (m ≤ 0) = false := decide_eq_false q1
          have HS := Lib.hid S9
          clear S9
          go_wp2_with fail
          go_meet
          case rel => exact ⟨rfl, HS.out⟩
      case rest =>
        obtain ⟨rfl, HS⟩ := hcut
        have S12 := HS.out
        clear S9 HS
        clear f0_0 f0_1 f0_2 f1_0 f1_1 f1_2 f2_0 f2_1 f2_2
        obtain ⟨f0_0, f0_1, f0_2⟩ := box3 S12 0 rfl
        obtain ⟨f1_0, f1_1, f1_2⟩ := box3 S12 1 rfl
        obtain ⟨f2_0, f2_1, f2_2⟩ := box3 S12 2 rfl
        have CD := Lib.hid (show ∀ (w : World) (a1 : Option Addr) (c1 : Nat) (x1 : List Int), Reads w w.heap.size a1 (ints .u8 x1) → x1.length ≤ c1 → x1 = toI (encU ⟨ka, na, sa⟩) → Calls Tryd.prog 11 #[.slice a1 x1.length c1] w fun e w' => e = .returned (.tuple #[.agg #[.int .i64 ka, .int .i64 na, .string sa], .bool true]) ∧ Below w.heap.size w w' by
          intro w a1 c1 x1 h1 h2 e1
          have hl : x1.length ≤ 1099511627776 := by rw [e1, toI_length]; exact encU_len _ (by show (sa.size : Int) ≤ _; omega)
          have CD := implDecodeKey_any a1 c1 x1 w h1 (by rw [e1]; exact toI_byt _) h2 hl
          have hd := dec_yes (l := x1) (k := ⟨ka, na, sa⟩) (by rw [e1, toU_toI]; exact dec_enc HI.out.1)
          unfold DkE at CD
          rw [hd.1, hd.2] at CD
          exact CD)
        obtain ⟨F, hF⟩ : ∃ F : ByteArray, F = strU (fmtU ⟨kb, nb, sb⟩) := ⟨_, rfl⟩
        have CP := Lib.hid (show ∀ (w : World), L1.Tab w → L1.Sents w → Calls Tryd.prog 12 #[.string F] w fun e w' => e = .returned (.tuple #[.agg #[.int .i64 kb, .int .i64 nb, .string sb], .bool true]) ∧ Below w.heap.size w w' by
          intro w ht hse
          have gb := isK_iff.1 HI.out.2.1
          have hz := fmt_small ⟨kb, nb, sb⟩ (by have := gb.n0; show _ ≤ nb; have h : -1000000000000 ≤ nb := this; omega) (by have := gb.n1; show nb ≤ _; have h : nb ≤ 1000000000000 := this; omega) (by show sb.size ≤ 13; omega)
          have CP := implParseKey_any F (by rw [hF]; omega) w ht hse
          have hd := par_yes (s := F) (k := ⟨kb, nb, sb⟩) (by rw [hF, strU_data]; exact par_fmt HI.out.2.1)
          unfold PkE at CP
          rw [hd.1, hd.2] at CP
          exact CP)
        have HF2 := Lib.hid (show ∀ (w : World), L1.Tab w → Calls Tryd.prog 13 #[.agg #[.int .i64 kb, .int .i64 nb, .string sb]] w fun e w' => e = .returned (.string F) ∧ Below w.heap.size w w' by rw [hF]; exact F2.out)
        clear hF
        go_wp2_with fail
        go_at_call 10
        with_reducible refine (gave S12 (E1.out _)).mono ?_
        rintro e w13 ⟨a1, c1, x1, rfl, hx1, S13⟩
        clear S12
        go_wp2_with fail
        go_at_call 11
        with_reducible refine (CD.out _ _ _ _ (S13.own 3 rfl).reads (S13.own 3 rfl).cap hx1.out).mono ?_
        rintro e w14 ⟨rfl, hb⟩
        have S14 := drop1 (S13.keep hb)
        clear S13 hb
        obtain ⟨D, hD⟩ : ∃ g, g = w14.heap.size := ⟨_, rfl⟩
        have S15 := push_box S14 25 #[.int .i64 ka, .int .i64 na, .string sa] D hD
        clear S14
        clear f0_0 f0_1 f0_2 f1_0 f1_1 f1_2 f2_0 f2_1 f2_2
        obtain ⟨f0_0, f0_1, f0_2⟩ := box3 S15 0 rfl
        obtain ⟨f1_0, f1_1, f1_2⟩ := box3 S15 1 rfl
        obtain ⟨f2_0, f2_1, f2_2⟩ := box3 S15 2 rfl
        go_wp2_with fail
        go_at_call 13
        rw [← hD]
        clear hD
        with_reducible refine (HF2.out _ (HTS.out.1.below S15.old)).mono ?_
        rintro e w16 ⟨rfl, hb⟩
        have S16 := S15.keep hb
        clear S15 hb
        clear f0_0 f0_1 f0_2 f1_0 f1_1 f1_2 f2_0 f2_1 f2_2
        go_wp2_with fail
        go_at_call 12
        with_reducible refine (CP.out _ (HTS.out.1.below S16.old) (HTS.out.2.below S16.old)).mono ?_
        rintro e w17 ⟨rfl, hb⟩
        have S17 := S16.keep hb
        clear S16 hb
        obtain ⟨G, hG⟩ : ∃ g, g = w17.heap.size := ⟨_, rfl⟩
        have S18 := push_box S17 25 #[.int .i64 kb, .int .i64 nb, .string sb] G hG
        clear S17
        go_wp2_with fail
        go_at_call 14
        rw [← hG]
        clear hG
        refine (drawParseKey_s _ hsm hby S18).mono ?_
        rintro e w19 ⟨s, rfl, hs, S19⟩
        clear S18
        obtain ⟨p, hp⟩ : ∃ b, parB s = b := ⟨_, rfl⟩
        obtain ⟨z, hz⟩ : ∃ k, parK s = k := ⟨_, rfl⟩
        have CZ := fun w ht hse => implParseKey_any s (by omega) w ht hse
        have CZ2 := fun w => specParseKey_any s (by omega) w
        unfold PkE at CZ CZ2
        rw [hz, hp] at CZ CZ2
        have hp2 : p = true → isK z = true ∧ strU (fmtU z) = s ∧ z.text.size ≤ 12 := fun h => by
          rw [← hp] at h
          unfold parB at h
          obtain ⟨k, hk⟩ := Option.isSome_iff_exists.1 h
          have h1 := (par_yes hk).1
          rw [hz] at h1
          have h2 := par_some hk
          rw [← h1] at h2
          have h3 := (isK_iff.1 h2.1).t
          unfold isT at h3
          have h4 : z.t.length ≤ 12 := by simp only [Bool.and_eq_true, decide_eq_true_eq] at h3; exact h3.2
          have h5 : z.t.length = z.text.size := Array.length_toList
          exact ⟨h2.1, ba_ext (by rw [strU_data]; exact h2.2), by omega⟩
        have HP := Lib.hid hp2
        clear hz hp hp2
        obtain ⟨kz, nz, sz⟩ := z
        simp only [K.v] at CZ CZ2
        replace CZ := Lib.hid CZ
        replace CZ2 := Lib.hid CZ2
        go_wp2_with fail
        go_at_call 12
        with_reducible refine (CZ.out _ (HTS.out.1.below S19.old) (HTS.out.2.below S19.old)).mono ?_
        rintro e w20 ⟨rfl, hb⟩
        have S20 := S19.keep hb
        clear S19 hb
        obtain ⟨H, hH⟩ : ∃ g, g = w20.heap.size := ⟨_, rfl⟩
        have S21 := push_box S20 25 #[.int .i64 kz, .int .i64 nz, .string sz] H hH
        clear S20
        go_wp2_with fail
        go_at_call 15
        rw [← hH]
        clear hH
        with_reducible refine (CZ2.out _).mono ?_
        rintro e w22 ⟨rfl, hb⟩
        have S22 := S21.keep hb
        clear S21 hb
        obtain ⟨J, hJ⟩ : ∃ g, g = w22.heap.size := ⟨_, rfl⟩
        obtain ⟨wE, hwE⟩ : ∃ u, u = w22.alloc (.cells #[.int .i64 kz, .int .i64 nz, .string sz] 25) := ⟨_, rfl⟩
        have S23 := push_box S22 25 #[.int .i64 kz, .int .i64 nz, .string sz] J hJ
        rw [← hwE] at S23
        clear S22
        go_upto_region 14 with fail
        rw [← hwE, ← hJ]
        clear hwE hJ
        obtain ⟨f0_0, f0_1, f0_2⟩ := box3 S23 0 rfl; obtain ⟨f1_0, f1_1, f1_2⟩ := box3 S23 1 rfl; obtain ⟨d0, d1, d2⟩ := box3 S23 3 rfl; obtain ⟨g0, g1, g2⟩ := box3 S23 4 rfl; obtain ⟨z0, z1, z2⟩ := box3 S23 5 rfl
        cases p with
        | false =>
          go_wp2_with fail
          go_ret
          exact ⟨rfl, S23.old⟩
        | true =>
          obtain ⟨p1, p2, p3⟩ := HP.out rfl
          have p3' : sz.size ≤ 12 := p3
          have CF := fun w ht => implFormatKey_any ⟨kz, nz, sz⟩ (by show sz.size ≤ _; omega) w ht
          have CI := fun w => implIsKey_any ⟨kz, nz, sz⟩ (by show sz.size ≤ _; omega) w
          rw [p2] at CF
          rw [p1] at CI
          simp only [K.v] at CF CI
          replace CF := Lib.hid CF
          replace CI := Lib.hid CI
          clear p1 p2 p3
          go_wp2_with fail
          go_at_call 13
          with_reducible refine (CF.out _ (HTS.out.1.below S23.old)).mono ?_
          rintro e w24 ⟨rfl, hb⟩
          have S24 := S23.keep hb
          clear f0_0 f0_1 f0_2 f1_0 f1_1 f1_2 d0 d1 d2 g0 g1 g2 z0 z1 z2
          obtain ⟨f0_0, f0_1, f0_2⟩ := box3 S24 0 rfl; obtain ⟨f1_0, f1_1, f1_2⟩ := box3 S24 1 rfl; obtain ⟨d0, d1, d2⟩ := box3 S24 3 rfl; obtain ⟨g0, g1, g2⟩ := box3 S24 4 rfl; obtain ⟨z0, z1, z2⟩ := box3 S24 5 rfl
          go_wp2_with fail
          go_at_call 16
          with_reducible refine (CI.out _).mono ?_
          rintro e w25 ⟨rfl, hb2⟩
          have S25 := S24.keep hb2
          go_wp2_with fail
          go_ret
          exact ⟨rfl, S25.old⟩

theorem door_met (os : Os) (args : Array Value) : laidMetH Tryd.prog Rows.fnKeysRow.laid ((World.doorLaid Tryd.prog 2000 os).forCall (fun _ _ => 0) ⟨#[], args, []⟩).memory := by
  rw [MakeChecks.laidMetH_plain _ _ _ (by kernel_rfl)]
  exact laidMet_of_run' 8 (by kernel_rfl) (by kernel_rfl)
set_option maxRecDepth 100000 in
theorem lifted (os : Os) (started : os.Started) (H : Type) (enc : TypeId × Value → H) :
    ReturnsInHanded {} Tryd.checked os 3 .any (fun w args => (Rows.fnKeysSpec.pre enc Tryd.prog Tryd.f3 Rows.fnKeysRow.domain false w args ∧ laidMetH Tryd.prog Rows.fnKeysRow.laid w) ∧ sizedMet enc Tryd.prog Tryd.f3 (OpenSpec.ofChange Rows.fnKeysSpec) false w args)
      (Rows.fnKeysSpec.post enc Tryd.prog Tryd.f3 false true false false) := by
  refine returnsInHanded_of_change_and (C := Tryd.checked) (X := fun w _ => laidMetH Tryd.prog Rows.fnKeysRow.laid w) (fun _ _ _ hh h => h.of_heap hh) own started (by kernel_rfl) Tryd.func3
    (ChangeSpec.witness_shaped (enc := enc) (C := Tryd.checked) (os := os) (X := fun w _ => laidMetH Tryd.prog Rows.fnKeysRow.laid w) false (World.doorLaid Tryd.prog 2000 os) #[.slice none 0 0] 8 rfl (World.shaped_of_RefB (by kernel_rfl) (by kernel_rfl)) (by kernel_rfl) (by kernel_rfl) (by kernel_rfl) (door_met os _)) ?_
  intro W base args ds gs before hval0 hW _ hsz0 hL _
  have hval : ∀ (j : Nat) t v, Tryd.f3.params[j]? = some t → args[j]? = some v → Value.okWide Tryd.prog W .any base t v := hval0
  have hW' := hW
  obtain ⟨p, q, hA0, hV, rfl, _, _⟩ := hW
  have hA : DataW.TrodAll enc Tryd.prog W 0 (fun _ => true) true Tryd.f3.params.toList args.toList ds p := hA0
  obtain ⟨rfl, rfl⟩ := trodVars_none hV
  have hlt : ∀ x ∈ p, x.block < W.heap.size := fun x hx => hW'.lt x (by simpa using hx)
  simp only [List.append_nil] at hW'
  have hw := walk H enc W base args ds p hval hA hlt hsz0 hL
  have hA1 := hA
  clear hA0 hval0 hsz0 hval hlt
  rw [Tryd.params3] at hA
  obtain ⟨v0, vs0, d0, ds0, p0, q0, e0, rfl, rfl, h0, hr0⟩ := trodAll_cons hA
  obtain ⟨e1, rfl, rfl⟩ := trodAll_nil hr0
  refine hw.mono fun e W' ⟨he, hb⟩ => ?_
  subst he
  exact ⟨_, rfl, Frame.law_post (tb := 4) rfl hW' hA1 rfl rfl rfl laidOut (by kernel_rfl) (by kernel_rfl) Tryd.underlying4 hb⟩

theorem holds : Rows.FnKeysSaid :=
  OpenClaim.holds_of_wide 3 Tryd.f3 rfl rfl rfl rfl rfl rfl rfl ⟨rfl, rfl, rfl, rfl, rfl⟩ rfl rfl rfl rfl rfl (by kernel_rfl) Tryd.func3 (by kernel_rfl)
    (of_decide_eq_true (by kernel_rfl)) (by unfold Func.isWrapper; first | (rw [if_pos (by decide +kernel)]; kernel_rfl) | (rw [if_neg (by decide +kernel)]; exact ⟨rfl, rfl⟩))
    (fun os started H enc _ => lifted os started H enc)

theorem card : Rows.FnKeysCardSaid :=
  Claim7.holds_tied_plain_at .later [] [.data, .data, .data, .sentinel, .sentinel] true (true, "bea731e61a822c1c45dfa29ff2fd7be7c6d777118a0003de4d2cb5d4a06a7ec2") true
    holds (fun _ h => by cases h) (by kernel_rfl) (fun _ h => by cases h) fnKeys_row_tie rfl ⟨rfl, rfl⟩ (by kernel_rfl) rfl
    (fun f fn hf hfn => by
      obtain rfl : f = 3 := Option.some.inj ((show Tryd.prog.funcNamed "loop.example/g00583/laws.FnKeys" = some 3 by kernel_rfl).symm.trans hf) |>.symm
      obtain rfl : fn = Tryd.f3 := (Option.some.inj (Tryd.func3.symm.trans hfn)).symm
      exact ⟨by kernel_rfl, fun j t ht => by
        rw [Tryd.params3] at ht
        have hm : t ∈ [22] := by simpa using Array.mem_of_getElem? ht
        have hall : ([22].all fun u => !Tryd.prog.wantsStandIn u) = true := by kernel_rfl
        exact (show Tryd.prog.wantsStandIn t = false by simpa using List.all_eq_true.1 hall t hm)⟩)
    (by kernel_rfl)
#print axioms card
end Go.Proofs.YtenmdecooamaaaaDoor.lawFnKeys
