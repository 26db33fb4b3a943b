/-
  Chapter 5's draw of a merge over several things that lie apart. No condition but that the code is a slice of bytes of at most 2^62 places.
-/
import Derived.Test.YtephiilicebdcaaSd6
namespace Go.Proofs.Ytephiilicebdcaa.L5
set_option maxRecDepth 100000
open L4 (boxR push_box box_at)
open Go.ChangeShapes Go.WideShapes Go.ChangeAt Go.RowKit Mem Sl Ex Draw L2 Sv
open Sd (curR at_left below_s once_s new_s str_sg int_sg drew_s cur_on moved put_r let_go drop gave)
set_option linter.unusedVariables false
set_option linter.unusedSimpArgs false

section
variable {W w : World} {rs : List Res}
set_option maxHeartbeats 16000000 in
theorem drawMergeRecords_s {a : Option Addr} {len : Nat} (cap : Nat) (hl : len ≤ 4611686018427387904) (hby : Bytes W W.heap.size a len) (h : Sep W w rs) :
    Calls Try.prog 20 #[.slice a len cap] w fun e w' => ∃ A0 C0 l0 A1 C1 l1 A2 C2 l2, e = .returned (.tuple #[.agg #[.slice A0 l0.length C0], .agg #[.slice A1 l1.length C1], .agg #[.slice A2 l2.length C2]]) ∧ Tame l0 9 ∧ Tame l1 9 ∧ Tame l2 9 ∧
      Sep W w' (rs ++ [ownV 64 2 A0 C0 l0.length (cellsF l0), ownV 64 2 A1 C1 l1.length (cellsF l1), ownV 64 2 A2 C2 l2.length (cellsF l2)]) := by
  have S1 := box_r (none_r h) 26 #[.slice none 0 0] w.heap.size rfl
  have S2 := box_r S1 26 #[.slice none 0 0] (w.heap.size + 1) (by simp)
  have S3 := Lib.hid (box_r S2 26 #[.slice none 0 0] (w.heap.size + 1 + 1) (by simp))
  have HL := Lib.hid (And.intro hl hby)
  clear h hl hby S1 S2
  go_enter Try.func20, Try.ntmps20
  go_wp2_with fail
  go_at_call 29
  refine (new_s S3.out a len cap HL.out.1 HL.out.2).mono ?_
  rintro e w1 ⟨c, rfl, S4'⟩
  have S4 := Lib.hid (assoc_r S4')
  clear S4' S3
  go_wp2_with fail
  go_at_call 44
  refine (rec_s S4.out (rs.length + 3) (at_r rfl)).mono ?_
  rintro e w2 ⟨A0, C0, l0, rfl, hT0, S5'⟩
  have HT0 := Lib.hid hT0
  have HCp := Lib.hid (fun w' hr => l5Copy_any A0 C0 l0 (by have := HT0.out.1; omega) w' hr)
  have S5 := Lib.hid (box_r (assoc_r S5') 26 #[.slice A0 l0.length C0] w2.heap.size rfl)
  obtain ⟨gz, hgz⟩ : ∃ g, g = w2.heap.size := ⟨_, rfl⟩
  rw [← hgz] at S5
  clear S4 S5' hT0
  obtain ⟨r0, r0'⟩ := one_r S5.out 5 rfl
  go_upto_region 3 with fail
  rw [← hgz]
  clear hgz
  go_wp2_with fail
  go_at_call 36
  refine (HCp.out _ (own_r S5.out 4 rfl).reads).mono ?_
  rintro e w3 ⟨A1, C1, rfl, ho, hb⟩
  have S6 := Lib.hid (box_r (push_r S5.out hb ho) 26 #[.slice A1 l0.length C1] w3.heap.size rfl)
  obtain ⟨ga, hga⟩ : ∃ g, g = w3.heap.size := ⟨_, rfl⟩
  rw [← hga] at S6
  clear ho hb r0 r0' S5
  obtain ⟨r0, r0'⟩ := one_r S6.out 5 rfl
  go_upto_region 4 with fail
  rw [← hga]
  clear hga
  go_wp2_with fail
  go_at_call 36
  refine (HCp.out _ (own_r S6.out 4 rfl).reads).mono ?_
  rintro e w4 ⟨A2, C2, rfl, ho, hb⟩
  have S7 := Lib.hid (box_r (push_r S6.out hb ho) 26 #[.slice A2 l0.length C2] w4.heap.size rfl)
  obtain ⟨gb, hgb⟩ : ∃ g, g = w4.heap.size := ⟨_, rfl⟩
  rw [← hgb] at S7
  clear ho hb r0 r0' S6 HCp
  go_upto_region 5 with fail
  rw [← hgb]
  clear hgb
  go_wp2_with fail
  go_at_call 49
  refine (below_s S7.out (rs.length + 3) (at_r rfl) _ (by decide) (by decide)).mono ?_
  rintro e w5 ⟨x, rfl, ⟨hx0, hx1⟩, S8'⟩
  have S8 := Lib.hid S8'
  clear S8' S7
  obtain ⟨x, rfl⟩ : ∃ j : Nat, x = j := ⟨x.toNat, by omega⟩
  go_wp2_with fail
  go_loopw [9] (fun v wr => ∃ j : Nat, j ≤ 2 ∧ v = .int .i64 j ∧ Hid (∃ (A : Option Addr) (C : Nat) (l : List F), Tame l (5 - j) ∧ Sep W wr (rs ++ [boxR w.heap.size 26 #[.slice none 0 0], boxR (w.heap.size + 1) 26 #[.slice none 0 0], boxR (w.heap.size + 1 + 1) 26 #[.slice none 0 0], curR W c, ownV 64 2 A0 C0 l0.length (cellsF l0), boxR gz 26 #[.slice A0 l0.length C0], ownV 64 2 A C l.length (cellsF l), boxR ga 26 #[.slice A l.length C], ownV 64 2 A2 C2 l0.length (cellsF l0), boxR gb 26 #[.slice A2 l0.length C2]]))) (fun v _ => (intOf v).toNat)
  case atStart => exact ⟨x, by omega, rfl, A1, C1, l0, HT0.out.mono (by omega), S8.out⟩
  case round =>
    obtain ⟨j, hj, rfl, hrel⟩ := hrel
    obtain ⟨A, C, l, hT, S⟩ := hrel.out
    have S9 := Lib.hid S
    have HT := Lib.hid hT
    clear S hT hrel S8
    obtain ⟨b0, b0'⟩ := one_r S9.out 7 rfl
    by_cases hlt : (0 : Int) < (j : Int)
    · have HSet := Lib.hid (fun (s : ByteArray) (hs : s.size ≤ 5) (y : Int) w' hr hc hz => specSetField_any A C l s y (by have := HT.out.1; omega) HT.out.2 (by omega) w' hr hc hz)
      go_wp2_with fail
      go_region_with (first
        | (go_at_call 50; refine (name_s (drew_s S9.out) (rs.length + 3) (at_r rfl)).mono ?_; rintro e w6 ⟨s, rfl, hs, S10'⟩; have S10 := Lib.hid S10'; clear S10'; obtain ⟨b1, b1'⟩ := one_r S10.out 7 rfl)
        | (go_at_call 49; refine (below_s S10.out (rs.length + 3) (at_r rfl) _ (by decide) (by decide)).mono ?_; rintro e w7 ⟨y, rfl, ⟨hy0, hy1⟩, S11'⟩; have S11 := Lib.hid S11'; clear S11'; obtain ⟨b2, b2'⟩ := one_r S11.out 7 rfl)
        | (go_at_call 11; refine (HSet.out s hs y _ (own_r S11.out 6 rfl).reads (own_r S11.out 6 rfl).cap (own_zero (own_r S11.out 6 rfl))).mono ?_; rintro e w8 h8; obtain ⟨A', C', rfl, ho, hb⟩ := h8; have S12 := Lib.hid (push_r S11.out hb ho); clear ho hb; obtain ⟨b3, b3'⟩ := one_r S12.out 7 rfl))
      all_goals
        have S13 := Lib.hid (take_r (us := [boxR w.heap.size 26 #[.slice none 0 0], boxR (w.heap.size + 1) 26 #[.slice none 0 0], boxR (w.heap.size + 1 + 1) 26 #[.slice none 0 0], curR W c, ownV 64 2 A0 C0 l0.length (cellsF l0), boxR gz 26 #[.slice A0 l0.length C0], ownV 64 2 A' C' (setL l s y).length (cellsF (setL l s y)), boxR ga 26 #[.slice A' (setL l s y).length C'], ownV 64 2 A2 C2 l0.length (cellsF l0), boxR gb 26 #[.slice A2 l0.length C2]]) (put_r S12.out 7 rfl 0 (.slice A' (setL l s y).length C')) [0, 1, 2, 3, 4, 5, 10, 7, 8, 9] (by rfl) (by decide))
        have HT2 := Lib.hid (HT.out.set (show s.size ≤ 281474976710656 by omega) y)
        clear b0 b0' b1 b1' b2 b2' b3 b3'
        go_wp2_with fail
        go_roundw
        case rel => exact ⟨j - 1, by omega, by go_num, A', C', setL l s y, by have := HT2.out; rwa [show 5 - j + 1 = 5 - (j - 1) by omega] at this, S13.out⟩
        case measure => simp [intOf]; omega
    · obtain rfl : j = 0 := by omega
      have HT1 := Lib.hid HT.out
      have S8 := Lib.hid S9.out
      clear S9 HT b0 b0'
      obtain ⟨A1, hA1⟩ : ∃ A1, A1 = A := ⟨_, rfl⟩
      obtain ⟨C1, hC1⟩ : ∃ C1, C1 = C := ⟨_, rfl⟩
      obtain ⟨l1, hl1⟩ : ∃ l1, l1 = l := ⟨_, rfl⟩
      rw [← hA1, ← hC1, ← hl1] at S8
      rw [← hl1] at HT1
      clear hA1 hC1 hl1
      go_wp2_with fail
      go_at_call 49
      refine (below_s S8.out (rs.length + 3) (at_r rfl) _ (by decide) (by decide)).mono ?_
      rintro e w5b ⟨x, rfl, ⟨hx0, hx1⟩, S8b'⟩
      have S8b := Lib.hid S8b'
      clear S8b' S8
      obtain ⟨x, rfl⟩ : ∃ j : Nat, x = j := ⟨x.toNat, by omega⟩
      go_wp2_with fail
      go_loopw [10] (fun v wr => ∃ j : Nat, j ≤ 2 ∧ v = .int .i64 j ∧ Hid (∃ (A : Option Addr) (C : Nat) (l : List F), Tame l (5 - j) ∧ Sep W wr (rs ++ [boxR w.heap.size 26 #[.slice none 0 0], boxR (w.heap.size + 1) 26 #[.slice none 0 0], boxR (w.heap.size + 1 + 1) 26 #[.slice none 0 0], curR W c, ownV 64 2 A0 C0 l0.length (cellsF l0), boxR gz 26 #[.slice A0 l0.length C0], ownV 64 2 A1 C1 l1.length (cellsF l1), boxR ga 26 #[.slice A1 l1.length C1], ownV 64 2 A C l.length (cellsF l), boxR gb 26 #[.slice A l.length C]]))) (fun v _ => (intOf v).toNat)
      case atStart => exact ⟨x, by omega, rfl, A2, C2, l0, HT0.out.mono (by omega), S8b.out⟩
      case round =>
        obtain ⟨j, hj, rfl, hrel⟩ := hrel
        obtain ⟨A, C, l, hT, S⟩ := hrel.out
        have S9 := Lib.hid S
        have HT := Lib.hid hT
        clear S hT hrel S8b
        obtain ⟨b0, b0'⟩ := one_r S9.out 9 rfl
        by_cases hlt : (0 : Int) < (j : Int)
        · have HSet := Lib.hid (fun (s : ByteArray) (hs : s.size ≤ 5) (y : Int) w' hr hc hz => specSetField_any A C l s y (by have := HT.out.1; omega) HT.out.2 (by omega) w' hr hc hz)
          go_wp2_with fail
          go_region_with (first
            | (go_at_call 50; refine (name_s (drew_s S9.out) (rs.length + 3) (at_r rfl)).mono ?_; rintro e w6 ⟨s, rfl, hs, S10'⟩; have S10 := Lib.hid S10'; clear S10'; obtain ⟨b1, b1'⟩ := one_r S10.out 9 rfl)
            | (go_at_call 49; refine (below_s S10.out (rs.length + 3) (at_r rfl) _ (by decide) (by decide)).mono ?_; rintro e w7 ⟨y, rfl, ⟨hy0, hy1⟩, S11'⟩; have S11 := Lib.hid S11'; clear S11'; obtain ⟨b2, b2'⟩ := one_r S11.out 9 rfl)
            | (go_at_call 11; refine (HSet.out s hs y _ (own_r S11.out 8 rfl).reads (own_r S11.out 8 rfl).cap (own_zero (own_r S11.out 8 rfl))).mono ?_; rintro e w8 h8; obtain ⟨A', C', rfl, ho, hb⟩ := h8; have S12 := Lib.hid (push_r S11.out hb ho); clear ho hb; obtain ⟨b3, b3'⟩ := one_r S12.out 9 rfl))
          all_goals
            have S13 := Lib.hid (take_r (us := [boxR w.heap.size 26 #[.slice none 0 0], boxR (w.heap.size + 1) 26 #[.slice none 0 0], boxR (w.heap.size + 1 + 1) 26 #[.slice none 0 0], curR W c, ownV 64 2 A0 C0 l0.length (cellsF l0), boxR gz 26 #[.slice A0 l0.length C0], ownV 64 2 A1 C1 l1.length (cellsF l1), boxR ga 26 #[.slice A1 l1.length C1], ownV 64 2 A' C' (setL l s y).length (cellsF (setL l s y)), boxR gb 26 #[.slice A' (setL l s y).length C']]) (put_r S12.out 9 rfl 0 (.slice A' (setL l s y).length C')) [0, 1, 2, 3, 4, 5, 6, 7, 10, 9] (by rfl) (by decide))
            have HT2 := Lib.hid (HT.out.set (show s.size ≤ 281474976710656 by omega) y)
            clear b0 b0' b1 b1' b2 b2' b3 b3'
            go_wp2_with fail
            go_roundw
            case rel => exact ⟨j - 1, by omega, by go_num, A', C', setL l s y, by have := HT2.out; rwa [show 5 - j + 1 = 5 - (j - 1) by omega] at this, S13.out⟩
            case measure => simp [intOf]; omega
        · obtain rfl : j = 0 := by omega
          have HT2 := Lib.hid HT.out
          clear HT b0 b0'
          go_wp2_with fail
          go_at_call 45
          refine (once_s S9.out (rs.length + 3) (at_r rfl) _ (by decide) (by decide)).mono ?_
          rintro e w9 ⟨ob, rfl, hS⟩
          have S10 := Lib.hid hS
          clear hS S9
          cases ob with
          | false =>
            go_wp2_with fail
            go_at_call 45
            refine (once_s S10.out (rs.length + 3) (at_r rfl) _ (by decide) (by decide)).mono ?_
            rintro e w12 ⟨ob, rfl, hS⟩
            have SY := Lib.hid hS
            clear hS S10
            cases ob with
            | false =>
              go_upto_region 17 with fail
              refine wp_region_held_drew (S := (fun w' => w'.cell? ⟨gz, 0, none⟩ = some (.slice A0 l0.length C0) ∧ w'.cell? ⟨ga, 0, none⟩ = some (.slice A1 l1.length C1) ∧ w'.cell? ⟨gb, 0, none⟩ = some (.slice A l.length C))) (by kernel_rfl) ⟨(one_r SY.out 5 rfl).1, (one_r SY.out 7 rfl).1, (one_r SY.out 9 rfl).1⟩ (fun hS => ?_)
              have SD0 := Lib.hid (drew_s SY.out)
              clear SY
              generalize World.drew _ = wd at hS SD0 ⊢
              refine Reg.take_op (i := 0) (v := ?_) rfl (by kernel_rfl) (by kernel_rfl) (by kernel_rfl) (fun _ _ _ h => h) (by rfl) ?_ (by assumption) ?_
              rotate_left
              · (intro w hSw; (try dsimp only at hSw); go_simp; try with_reducible rfl)
              try simp only [Act.put, List.setIfInBounds_toArray, List.set_cons_zero, List.set_cons_succ]
              refine Reg.take_op (i := 1) (v := ?_) rfl (by kernel_rfl) (by kernel_rfl) (by kernel_rfl) (fun _ _ _ h => h) (by rfl) ?_ (by assumption) ?_
              rotate_left
              · (intro w hSw; (try dsimp only at hSw); go_simp; try with_reducible rfl)
              try simp only [Act.put, List.setIfInBounds_toArray, List.set_cons_zero, List.set_cons_succ]
              refine Reg.take_op (i := 2) (v := ?_) rfl (by kernel_rfl) (by kernel_rfl) (by kernel_rfl) (fun _ _ _ h => h) (by rfl) ?_ (by assumption) ?_
              rotate_left
              · (intro w hSw; (try dsimp only at hSw); go_simp; try with_reducible rfl)
              try simp only [Act.put, List.setIfInBounds_toArray, List.set_cons_zero, List.set_cons_succ]
              refine Reg.one_op (i := 3) rfl (by kernel_rfl) (fun K hK => ?_)
              obtain ⟨z0, z1⟩ := one_r SD0.out 0 rfl
              go_simp
              have SD1 := Lib.hid (put_r SD0.out 0 rfl 0 (.slice A0 l0.length C0))
              clear z0 z1
              refine hK.out _ _ ⟨(one_r SD1.out 5 rfl).1, (one_r SD1.out 7 rfl).1, (one_r SD1.out 9 rfl).1⟩ (fun hS => ?_)
              clear hK K
              try simp only [Act.put, List.setIfInBounds_toArray, List.set_cons_zero, List.set_cons_succ]
              refine Reg.one_op (i := 4) rfl (by kernel_rfl) (fun K hK => ?_)
              obtain ⟨z0, z1⟩ := one_r SD1.out 1 rfl
              go_simp
              have SD2 := Lib.hid (put_r SD1.out 1 rfl 0 (.slice A1 l1.length C1))
              clear z0 z1
              refine hK.out _ _ ⟨(one_r SD2.out 5 rfl).1, (one_r SD2.out 7 rfl).1, (one_r SD2.out 9 rfl).1⟩ (fun hS => ?_)
              clear hK K
              try simp only [Act.put, List.setIfInBounds_toArray, List.set_cons_zero, List.set_cons_succ]
              refine Reg.one_op (i := 5) rfl (by kernel_rfl) (fun K hK => ?_)
              obtain ⟨z0, z1⟩ := one_r SD2.out 2 rfl
              go_simp
              have SD3 := Lib.hid (put_r SD2.out 2 rfl 0 (.slice A l.length C))
              clear z0 z1
              refine hK.out _ _ ⟨(one_r SD3.out 5 rfl).1, (one_r SD3.out 7 rfl).1, (one_r SD3.out 9 rfl).1⟩ (fun hS => ?_)
              clear hK K
              try simp only [Act.put, List.setIfInBounds_toArray, List.set_cons_zero, List.set_cons_succ]
              refine wpAnyH_done (by kernel_rfl) ?_ _
              obtain ⟨z0, z0'⟩ := one_r SD3.out 0 rfl
              obtain ⟨z1, z1'⟩ := one_r SD3.out 1 rfl
              obtain ⟨z2, z2'⟩ := one_r SD3.out 2 rfl
              go_wp2_with fail
              refine bodyPost_ret (v := .tuple #[.agg #[.slice A0 l0.length C0], .agg #[.slice A1 l1.length C1], .agg #[.slice A l.length C]]) (by simp [results, Try.results20, go_sem, z0, z1, z2]) rfl ?_
              exact ⟨A0, C0, l0, A1, C1, l1, A, C, l, rfl, HT0.out.mono (by omega), HT1.out.mono (by omega), HT2.out.mono (by omega), take_r (us := [ownV 64 2 A0 C0 l0.length (cellsF l0), ownV 64 2 A1 C1 l1.length (cellsF l1), ownV 64 2 A C l.length (cellsF l)]) SD3.out [4, 6, 8] (by rfl) (by decide)⟩
            | true =>
              go_wp2_with fail
              go_at_call 30
              refine (any_s SY.out (rs.length + 3) (at_r rfl)).mono ?_
              rintro e w13 ⟨An, Cn, ln, rfl, hTn, S14'⟩
              have S14 := Lib.hid (assoc_r S14')
              clear S14' SY
              obtain ⟨b3, b3'⟩ := one_r S14.out 7 rfl
              have SZ := Lib.hid (take_r (us := [boxR w.heap.size 26 #[.slice none 0 0], boxR (w.heap.size + 1) 26 #[.slice none 0 0], boxR (w.heap.size + 1 + 1) 26 #[.slice none 0 0], curR W c, ownV 64 2 A0 C0 l0.length (cellsF l0), boxR gz 26 #[.slice A0 l0.length C0], ownV 64 2 An Cn ln.length (cellsF ln), boxR ga 26 #[.slice An ln.length Cn], ownV 64 2 A C l.length (cellsF l), boxR gb 26 #[.slice A l.length C]]) (put_r S14.out 7 rfl 0 (.slice An ln.length Cn)) [0, 1, 2, 3, 4, 5, 10, 7, 8, 9] (by rfl) (by decide))
              go_upto_region 17 with fail
              clear b3 b3'
              refine wp_region_held_drew (S := (fun w' => w'.cell? ⟨gz, 0, none⟩ = some (.slice A0 l0.length C0) ∧ w'.cell? ⟨ga, 0, none⟩ = some (.slice An ln.length Cn) ∧ w'.cell? ⟨gb, 0, none⟩ = some (.slice A l.length C))) (by kernel_rfl) ⟨(one_r SZ.out 5 rfl).1, (one_r SZ.out 7 rfl).1, (one_r SZ.out 9 rfl).1⟩ (fun hS => ?_)
              have SD0 := Lib.hid (drew_s SZ.out)
              clear SZ
              generalize World.drew _ = wd at hS SD0 ⊢
              refine Reg.take_op (i := 0) (v := ?_) rfl (by kernel_rfl) (by kernel_rfl) (by kernel_rfl) (fun _ _ _ h => h) (by rfl) ?_ (by assumption) ?_
              rotate_left
              · (intro w hSw; (try dsimp only at hSw); go_simp; try with_reducible rfl)
              try simp only [Act.put, List.setIfInBounds_toArray, List.set_cons_zero, List.set_cons_succ]
              refine Reg.take_op (i := 1) (v := ?_) rfl (by kernel_rfl) (by kernel_rfl) (by kernel_rfl) (fun _ _ _ h => h) (by rfl) ?_ (by assumption) ?_
              rotate_left
              · (intro w hSw; (try dsimp only at hSw); go_simp; try with_reducible rfl)
              try simp only [Act.put, List.setIfInBounds_toArray, List.set_cons_zero, List.set_cons_succ]
              refine Reg.take_op (i := 2) (v := ?_) rfl (by kernel_rfl) (by kernel_rfl) (by kernel_rfl) (fun _ _ _ h => h) (by rfl) ?_ (by assumption) ?_
              rotate_left
              · (intro w hSw; (try dsimp only at hSw); go_simp; try with_reducible rfl)
              try simp only [Act.put, List.setIfInBounds_toArray, List.set_cons_zero, List.set_cons_succ]
              refine Reg.one_op (i := 3) rfl (by kernel_rfl) (fun K hK => ?_)
              obtain ⟨z0, z1⟩ := one_r SD0.out 0 rfl
              go_simp
              have SD1 := Lib.hid (put_r SD0.out 0 rfl 0 (.slice A0 l0.length C0))
              clear z0 z1
              refine hK.out _ _ ⟨(one_r SD1.out 5 rfl).1, (one_r SD1.out 7 rfl).1, (one_r SD1.out 9 rfl).1⟩ (fun hS => ?_)
              clear hK K
              try simp only [Act.put, List.setIfInBounds_toArray, List.set_cons_zero, List.set_cons_succ]
              refine Reg.one_op (i := 4) rfl (by kernel_rfl) (fun K hK => ?_)
              obtain ⟨z0, z1⟩ := one_r SD1.out 1 rfl
              go_simp
              have SD2 := Lib.hid (put_r SD1.out 1 rfl 0 (.slice An ln.length Cn))
              clear z0 z1
              refine hK.out _ _ ⟨(one_r SD2.out 5 rfl).1, (one_r SD2.out 7 rfl).1, (one_r SD2.out 9 rfl).1⟩ (fun hS => ?_)
              clear hK K
              try simp only [Act.put, List.setIfInBounds_toArray, List.set_cons_zero, List.set_cons_succ]
              refine Reg.one_op (i := 5) rfl (by kernel_rfl) (fun K hK => ?_)
              obtain ⟨z0, z1⟩ := one_r SD2.out 2 rfl
              go_simp
              have SD3 := Lib.hid (put_r SD2.out 2 rfl 0 (.slice A l.length C))
              clear z0 z1
              refine hK.out _ _ ⟨(one_r SD3.out 5 rfl).1, (one_r SD3.out 7 rfl).1, (one_r SD3.out 9 rfl).1⟩ (fun hS => ?_)
              clear hK K
              try simp only [Act.put, List.setIfInBounds_toArray, List.set_cons_zero, List.set_cons_succ]
              refine wpAnyH_done (by kernel_rfl) ?_ _
              obtain ⟨z0, z0'⟩ := one_r SD3.out 0 rfl
              obtain ⟨z1, z1'⟩ := one_r SD3.out 1 rfl
              obtain ⟨z2, z2'⟩ := one_r SD3.out 2 rfl
              go_wp2_with fail
              refine bodyPost_ret (v := .tuple #[.agg #[.slice A0 l0.length C0], .agg #[.slice An ln.length Cn], .agg #[.slice A l.length C]]) (by simp [results, Try.results20, go_sem, z0, z1, z2]) rfl ?_
              exact ⟨A0, C0, l0, An, Cn, ln, A, C, l, rfl, HT0.out.mono (by omega), hTn, HT2.out.mono (by omega), take_r (us := [ownV 64 2 A0 C0 l0.length (cellsF l0), ownV 64 2 An Cn ln.length (cellsF ln), ownV 64 2 A C l.length (cellsF l)]) SD3.out [4, 6, 8] (by rfl) (by decide)⟩
          | true =>
            obtain ⟨b0, b0'⟩ := one_r S10.out 9 rfl
            have HRem := Lib.hid (fun (s : ByteArray) w' hr => specRemoveField_any A C l s (by have := HT2.out.1; omega) HT2.out.2 w' hr)
            go_wp2_with fail
            go_region_with (first
              | (go_at_call 50; refine (name_s (drew_s S10.out) (rs.length + 3) (at_r rfl)).mono ?_; rintro e w10 ⟨s, rfl, hs, S11'⟩; have S11 := Lib.hid S11'; clear S11'; obtain ⟨b1, b1'⟩ := one_r S11.out 9 rfl)
              | (go_at_call 28; refine (HRem.out s _ (own_r S11.out 8 rfl).reads).mono ?_; rintro e w11 h8; obtain ⟨A', C', rfl, ho, hb⟩ := h8; have S12 := Lib.hid (push_r S11.out hb ho); clear ho hb; obtain ⟨b3, b3'⟩ := one_r S12.out 9 rfl))
            all_goals
              have SX := Lib.hid (take_r (us := [boxR w.heap.size 26 #[.slice none 0 0], boxR (w.heap.size + 1) 26 #[.slice none 0 0], boxR (w.heap.size + 1 + 1) 26 #[.slice none 0 0], curR W c, ownV 64 2 A0 C0 l0.length (cellsF l0), boxR gz 26 #[.slice A0 l0.length C0], ownV 64 2 A1 C1 l1.length (cellsF l1), boxR ga 26 #[.slice A1 l1.length C1], ownV 64 2 A' C' (remL l s.data.toList).length (cellsF (remL l s.data.toList)), boxR gb 26 #[.slice A' (remL l s.data.toList).length C']]) (put_r S12.out 9 rfl 0 (.slice A' (remL l s.data.toList).length C')) [0, 1, 2, 3, 4, 5, 6, 7, 10, 9] (by rfl) (by decide))
              have HT3 := Lib.hid (HT2.out.rem s.data.toList)
              clear b0 b0' b1 b1' b3 b3'
              go_wp2_with fail
              go_at_call 45
              refine (once_s SX.out (rs.length + 3) (at_r rfl) _ (by decide) (by decide)).mono ?_
              rintro e w12 ⟨ob, rfl, hS⟩
              have SY := Lib.hid hS
              clear hS SX
              cases ob with
              | false =>
                go_upto_region 17 with fail
                refine wp_region_held_drew (S := (fun w' => w'.cell? ⟨gz, 0, none⟩ = some (.slice A0 l0.length C0) ∧ w'.cell? ⟨ga, 0, none⟩ = some (.slice A1 l1.length C1) ∧ w'.cell? ⟨gb, 0, none⟩ = some (.slice A' (remL l s.data.toList).length C'))) (by kernel_rfl) ⟨(one_r SY.out 5 rfl).1, (one_r SY.out 7 rfl).1, (one_r SY.out 9 rfl).1⟩ (fun hS => ?_)
                have SD0 := Lib.hid (drew_s SY.out)
                clear SY
                generalize World.drew _ = wd at hS SD0 ⊢
                refine Reg.take_op (i := 0) (v := ?_) rfl (by kernel_rfl) (by kernel_rfl) (by kernel_rfl) (fun _ _ _ h => h) (by rfl) ?_ (by assumption) ?_
                rotate_left
                · (intro w hSw; (try dsimp only at hSw); go_simp; try with_reducible rfl)
                try simp only [Act.put, List.setIfInBounds_toArray, List.set_cons_zero, List.set_cons_succ]
                refine Reg.take_op (i := 1) (v := ?_) rfl (by kernel_rfl) (by kernel_rfl) (by kernel_rfl) (fun _ _ _ h => h) (by rfl) ?_ (by assumption) ?_
                rotate_left
                · (intro w hSw; (try dsimp only at hSw); go_simp; try with_reducible rfl)
                try simp only [Act.put, List.setIfInBounds_toArray, List.set_cons_zero, List.set_cons_succ]
                refine Reg.take_op (i := 2) (v := ?_) rfl (by kernel_rfl) (by kernel_rfl) (by kernel_rfl) (fun _ _ _ h => h) (by rfl) ?_ (by assumption) ?_
                rotate_left
                · (intro w hSw; (try dsimp only at hSw); go_simp; try with_reducible rfl)
                try simp only [Act.put, List.setIfInBounds_toArray, List.set_cons_zero, List.set_cons_succ]
                refine Reg.one_op (i := 3) rfl (by kernel_rfl) (fun K hK => ?_)
                obtain ⟨z0, z1⟩ := one_r SD0.out 0 rfl
                go_simp
                have SD1 := Lib.hid (put_r SD0.out 0 rfl 0 (.slice A0 l0.length C0))
                clear z0 z1
                refine hK.out _ _ ⟨(one_r SD1.out 5 rfl).1, (one_r SD1.out 7 rfl).1, (one_r SD1.out 9 rfl).1⟩ (fun hS => ?_)
                clear hK K
                try simp only [Act.put, List.setIfInBounds_toArray, List.set_cons_zero, List.set_cons_succ]
                refine Reg.one_op (i := 4) rfl (by kernel_rfl) (fun K hK => ?_)
                obtain ⟨z0, z1⟩ := one_r SD1.out 1 rfl
                go_simp
                have SD2 := Lib.hid (put_r SD1.out 1 rfl 0 (.slice A1 l1.length C1))
                clear z0 z1
                refine hK.out _ _ ⟨(one_r SD2.out 5 rfl).1, (one_r SD2.out 7 rfl).1, (one_r SD2.out 9 rfl).1⟩ (fun hS => ?_)
                clear hK K
                try simp only [Act.put, List.setIfInBounds_toArray, List.set_cons_zero, List.set_cons_succ]
                refine Reg.one_op (i := 5) rfl (by kernel_rfl) (fun K hK => ?_)
                obtain ⟨z0, z1⟩ := one_r SD2.out 2 rfl
                go_simp
                have SD3 := Lib.hid (put_r SD2.out 2 rfl 0 (.slice A' (remL l s.data.toList).length C'))
                clear z0 z1
                refine hK.out _ _ ⟨(one_r SD3.out 5 rfl).1, (one_r SD3.out 7 rfl).1, (one_r SD3.out 9 rfl).1⟩ (fun hS => ?_)
                clear hK K
                try simp only [Act.put, List.setIfInBounds_toArray, List.set_cons_zero, List.set_cons_succ]
                refine wpAnyH_done (by kernel_rfl) ?_ _
                obtain ⟨z0, z0'⟩ := one_r SD3.out 0 rfl
                obtain ⟨z1, z1'⟩ := one_r SD3.out 1 rfl
                obtain ⟨z2, z2'⟩ := one_r SD3.out 2 rfl
                go_wp2_with fail
                refine bodyPost_ret (v := .tuple #[.agg #[.slice A0 l0.length C0], .agg #[.slice A1 l1.length C1], .agg #[.slice A' (remL l s.data.toList).length C']]) (by simp [results, Try.results20, go_sem, z0, z1, z2]) rfl ?_
                exact ⟨A0, C0, l0, A1, C1, l1, A', C', (remL l s.data.toList), rfl, HT0.out.mono (by omega), HT1.out.mono (by omega), HT3.out.mono (by omega), take_r (us := [ownV 64 2 A0 C0 l0.length (cellsF l0), ownV 64 2 A1 C1 l1.length (cellsF l1), ownV 64 2 A' C' (remL l s.data.toList).length (cellsF (remL l s.data.toList))]) SD3.out [4, 6, 8] (by rfl) (by decide)⟩
              | true =>
                go_wp2_with fail
                go_at_call 30
                refine (any_s SY.out (rs.length + 3) (at_r rfl)).mono ?_
                rintro e w13 ⟨An, Cn, ln, rfl, hTn, S14'⟩
                have S14 := Lib.hid (assoc_r S14')
                clear S14' SY
                obtain ⟨b3, b3'⟩ := one_r S14.out 7 rfl
                have SZ := Lib.hid (take_r (us := [boxR w.heap.size 26 #[.slice none 0 0], boxR (w.heap.size + 1) 26 #[.slice none 0 0], boxR (w.heap.size + 1 + 1) 26 #[.slice none 0 0], curR W c, ownV 64 2 A0 C0 l0.length (cellsF l0), boxR gz 26 #[.slice A0 l0.length C0], ownV 64 2 An Cn ln.length (cellsF ln), boxR ga 26 #[.slice An ln.length Cn], ownV 64 2 A' C' (remL l s.data.toList).length (cellsF (remL l s.data.toList)), boxR gb 26 #[.slice A' (remL l s.data.toList).length C']]) (put_r S14.out 7 rfl 0 (.slice An ln.length Cn)) [0, 1, 2, 3, 4, 5, 10, 7, 8, 9] (by rfl) (by decide))
                go_upto_region 17 with fail
                clear b3 b3'
                refine wp_region_held_drew (S := (fun w' => w'.cell? ⟨gz, 0, none⟩ = some (.slice A0 l0.length C0) ∧ w'.cell? ⟨ga, 0, none⟩ = some (.slice An ln.length Cn) ∧ w'.cell? ⟨gb, 0, none⟩ = some (.slice A' (remL l s.data.toList).length C'))) (by kernel_rfl) ⟨(one_r SZ.out 5 rfl).1, (one_r SZ.out 7 rfl).1, (one_r SZ.out 9 rfl).1⟩ (fun hS => ?_)
                have SD0 := Lib.hid (drew_s SZ.out)
                clear SZ
                generalize World.drew _ = wd at hS SD0 ⊢
                refine Reg.take_op (i := 0) (v := ?_) rfl (by kernel_rfl) (by kernel_rfl) (by kernel_rfl) (fun _ _ _ h => h) (by rfl) ?_ (by assumption) ?_
                rotate_left
                · (intro w hSw; (try dsimp only at hSw); go_simp; try with_reducible rfl)
                try simp only [Act.put, List.setIfInBounds_toArray, List.set_cons_zero, List.set_cons_succ]
                refine Reg.take_op (i := 1) (v := ?_) rfl (by kernel_rfl) (by kernel_rfl) (by kernel_rfl) (fun _ _ _ h => h) (by rfl) ?_ (by assumption) ?_
                rotate_left
                · (intro w hSw; (try dsimp only at hSw); go_simp; try with_reducible rfl)
                try simp only [Act.put, List.setIfInBounds_toArray, List.set_cons_zero, List.set_cons_succ]
                refine Reg.take_op (i := 2) (v := ?_) rfl (by kernel_rfl) (by kernel_rfl) (by kernel_rfl) (fun _ _ _ h => h) (by rfl) ?_ (by assumption) ?_
                rotate_left
                · (intro w hSw; (try dsimp only at hSw); go_simp; try with_reducible rfl)
                try simp only [Act.put, List.setIfInBounds_toArray, List.set_cons_zero, List.set_cons_succ]
                refine Reg.one_op (i := 3) rfl (by kernel_rfl) (fun K hK => ?_)
                obtain ⟨z0, z1⟩ := one_r SD0.out 0 rfl
                go_simp
                have SD1 := Lib.hid (put_r SD0.out 0 rfl 0 (.slice A0 l0.length C0))
                clear z0 z1
                refine hK.out _ _ ⟨(one_r SD1.out 5 rfl).1, (one_r SD1.out 7 rfl).1, (one_r SD1.out 9 rfl).1⟩ (fun hS => ?_)
                clear hK K
                try simp only [Act.put, List.setIfInBounds_toArray, List.set_cons_zero, List.set_cons_succ]
                refine Reg.one_op (i := 4) rfl (by kernel_rfl) (fun K hK => ?_)
                obtain ⟨z0, z1⟩ := one_r SD1.out 1 rfl
                go_simp
                have SD2 := Lib.hid (put_r SD1.out 1 rfl 0 (.slice An ln.length Cn))
                clear z0 z1
                refine hK.out _ _ ⟨(one_r SD2.out 5 rfl).1, (one_r SD2.out 7 rfl).1, (one_r SD2.out 9 rfl).1⟩ (fun hS => ?_)
                clear hK K
                try simp only [Act.put, List.setIfInBounds_toArray, List.set_cons_zero, List.set_cons_succ]
                refine Reg.one_op (i := 5) rfl (by kernel_rfl) (fun K hK => ?_)
                obtain ⟨z0, z1⟩ := one_r SD2.out 2 rfl
                go_simp
                have SD3 := Lib.hid (put_r SD2.out 2 rfl 0 (.slice A' (remL l s.data.toList).length C'))
                clear z0 z1
                refine hK.out _ _ ⟨(one_r SD3.out 5 rfl).1, (one_r SD3.out 7 rfl).1, (one_r SD3.out 9 rfl).1⟩ (fun hS => ?_)
                clear hK K
                try simp only [Act.put, List.setIfInBounds_toArray, List.set_cons_zero, List.set_cons_succ]
                refine wpAnyH_done (by kernel_rfl) ?_ _
                obtain ⟨z0, z0'⟩ := one_r SD3.out 0 rfl
                obtain ⟨z1, z1'⟩ := one_r SD3.out 1 rfl
                obtain ⟨z2, z2'⟩ := one_r SD3.out 2 rfl
                go_wp2_with fail
                refine bodyPost_ret (v := .tuple #[.agg #[.slice A0 l0.length C0], .agg #[.slice An ln.length Cn], .agg #[.slice A' (remL l s.data.toList).length C']]) (by simp [results, Try.results20, go_sem, z0, z1, z2]) rfl ?_
                exact ⟨A0, C0, l0, An, Cn, ln, A', C', (remL l s.data.toList), rfl, HT0.out.mono (by omega), hTn, HT3.out.mono (by omega), take_r (us := [ownV 64 2 A0 C0 l0.length (cellsF l0), ownV 64 2 An Cn ln.length (cellsF ln), ownV 64 2 A' C' (remL l s.data.toList).length (cellsF (remL l s.data.toList))]) SD3.out [4, 6, 8] (by rfl) (by decide)⟩
end
end Go.Proofs.Ytephiilicebdcaa.L5
