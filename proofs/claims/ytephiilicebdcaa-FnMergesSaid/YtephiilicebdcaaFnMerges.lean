/-
  The law FnMerges answers true for every argument, and leaves its arguments as they were. No condition.
  (The frame is written by my program mk_law.py.)
-/
import Derived.Test.YtephiilicebdcaaPa
import Derived.SizedLaws
import Derived.LaidLaws
import Derived.ShutString
import Derived.Stop.LaidErr
import Derived.Lib.LaidTab
import Derived.Test.YtephiilicebdcaaL5Ih
import Derived.Test.YtephiilicebdcaaL5Ij
import Derived.Test.YtephiilicebdcaaL5Sm
import Derived.Test.YtephiilicebdcaaL5Fin
import Derived.Test.YtephiilicebdcaaSd8
namespace Go.Proofs.Ytephiilicebdcaa.lawFnMerges
open Go.ChangeShapes Go.WideShapes Go.ChangeAt Go.RowKit
open Go.ChangeMaps (open_string shut_string)
set_option linter.unusedVariables false
theorem own : ownKnob Try.prog.godebug = none := by kernel_rfl
theorem laidOut : laidOutB Try.prog = true := by kernel_rfl
open Mem Sl Ex Sd L2
theorem eqR_self (l : List L5.F) : L5.eqR l l = true := L5.eqR_iff.2 rfl
set_option maxRecDepth 100000 in
set_option maxHeartbeats 8000000 in
theorem walk (H : Type) (enc : TypeId × Value → H) (W : World) (base : Nat) (args : Array Value) (ds : List (DataW H)) (p : List MemPlace)
    (hval : ∀ (j : Nat) t v, Try.f4.params[j]? = some t → args[j]? = some v → Value.okWide Try.prog W .any base t v)
    (hA : DataW.TrodAll enc Try.prog W 0 (fun _ => true) true Try.f4.params.toList args.toList ds p)
    (hlt : ∀ x ∈ p, x.block < W.heap.size)
    (hsz : (DataW.weightsEach Try.prog (Try.f4.params.toList ++ Rows.fnMergesSpec.plain.varTypes Try.prog) (ds ++ [])).all (· ≤ reachBytes) = true) :
    Calls Try.prog 4 args W fun e w' => e = .returned (.bool true) ∧ Below W.heap.size W w' := by
  rw [Try.params4] at hA hval hsz
  obtain ⟨v0, d0, rfl, rfl, h0⟩ := trodAll_one hA
  obtain ⟨a0, l0, c0, rfl, hC0, -, hR0, hW0⟩ := Law.open_list Try.underlying22 Try.underlying5 (by kernel_rfl) (hval 0 22 v0 rfl rfl) h0 hlt
  have hby : Mem.Bytes W W.heap.size a0 l0.length := fun j hj => by
    obtain ⟨ad, he, hb, hc⟩ := hR0.int j hj
    have := Law.wf_u8 (hW0 l0[j] (List.getElem_mem hj))
    exact ⟨ad, _, he, hb, hc, this.1, this.2⟩
  obtain ⟨n0, hn0⟩ : ∃ n, n = l0.length := ⟨_, rfl⟩
  rw [← hn0] at hby hC0 ⊢
  clear hn0 hR0 hW0 hA hval hlt hsz h0
  have S0 := Sl.Sep.start W
  by_cases hbig : n0 > 1048576
  · go_enter Try.func4, Try.ntmps4
    go_wp2_with (go_at_call 8; refine (big_s _ S0).mono ?_; rw [decide_eq_true hbig]; rintro e w1 ⟨rfl, S1⟩)
    go_ret
    exact ⟨rfl, S1.old⟩
  · have hsm : n0 ≤ 4611686018427387904 := by omega
    go_enter Try.func4, Try.ntmps4
    go_wp2_with fail
    go_at_call 8
    refine (big_s _ S0).mono ?_
    rw [decide_eq_false hbig]
    rintro e w1 ⟨rfl, S1⟩
    clear S0 l0
    go_wp2_with fail
    go_at_call 20
    refine (L5.drawMergeRecords_s _ hsm hby S1).mono ?_
    rintro e w2 ⟨A0, C0, l0, A1, C1, l1, A2, C2, l2, rfl, HT0, HT1, HT2, S2'⟩
    clear S1
    have S2 : Sl.Sep W w2 [Sv.ownV 64 2 A0 C0 l0.length (L5.cellsF l0), Sv.ownV 64 2 A1 C1 l1.length (L5.cellsF l1), Sv.ownV 64 2 A2 C2 l2.length (L5.cellsF l2)] := S2'
    clear S2'
    have S3 := Lib.hid (show Sl.Sep W _ [Sv.ownV 64 2 A0 C0 l0.length (L5.cellsF l0), Sv.ownV 64 2 A1 C1 l1.length (L5.cellsF l1), Sv.ownV 64 2 A2 C2 l2.length (L5.cellsF l2), L4.boxR w2.heap.size 26 #[.slice A0 l0.length C0], L4.boxR (w2.heap.size + 1) 26 #[.slice A1 l1.length C1], L4.boxR (w2.heap.size + 1 + 1) 26 #[.slice A2 l2.length C2]] from L4.push_box (L4.push_box (L4.push_box S2 26 #[.slice A0 l0.length C0] w2.heap.size rfl) 26 #[.slice A1 l1.length C1] (w2.heap.size + 1) (by simp)) 26 #[.slice A2 l2.length C2] (w2.heap.size + 1 + 1) (by simp))
    clear S2
    obtain ⟨hL0, hS0⟩ := HT0
    obtain ⟨hL1, hS1⟩ := HT1
    obtain ⟨hL2, hS2⟩ := HT2
    have CC := Lib.hid (fun (p q r : Option Addr) (x y z : Nat) (k l m : List L5.F) (hk : k.length ≤ 9) (hl : l.length ≤ 9) (hm : m.length ≤ 9) (sk : L5.Small k) (sl : L5.Small l) (sm : L5.Small m) w h1 h2 h3 => L5.mergeRecords_any p q r x y z k l m (by omega) (by omega) (by omega) sk sl sm w h1 h2 h3)
    have CS := Lib.hid (fun w h1 h2 h3 => L5.specMergeRecords_any A0 A1 A2 C0 C1 C2 l0 l1 l2 (by omega) (by omega) (by omega) hS0 hS1 hS2 w h1 h2 h3)
    have HXL := Lib.hid (show (L5.mgL l0 l1 l2).length ≤ 1099511627776 by have := L5.len_mgO l0 l1 l2; unfold L5.mgL; split <;> omega)
    cases hm : L5.mgB l0 l1 l2 with
    | false =>
      have e1 : L5.mgL l0 l1 l2 = l1 := L5.mgL_no hm
      have hm2 : L5.mgB l0 l2 l1 = false := by rw [L5.mgB_comm]; exact hm
      have e2 : L5.mgL l0 l2 l1 = l2 := L5.mgL_no hm2
      have f3 := (L5.Row.one (L4.box_at S3.out 3 rfl)).1
      have f4 := (L5.Row.one (L4.box_at S3.out 4 rfl)).1
      have f5 := (L5.Row.one (L4.box_at S3.out 5 rfl)).1
      go_wp2_with fail
      go_at_call 21
      have HC := CC.out A0 A1 A2 C0 C1 C2 l0 l1 l2 hL0 hL1 hL2 hS0 hS1 hS2 _ (Sv.own_at S3.out 0 rfl).reads (Sv.own_at S3.out 1 rfl).reads (Sv.own_at S3.out 2 rfl).reads
      rw [e1, hm] at HC
      refine HC.mono ?_
      rintro e w3 h
      obtain ⟨ax, cx, rfl, ho, hb⟩ := h
      clear f3 f4 f5
      clear HC
      have S4 := Lib.hid (show Sl.Sep W _ [Sv.ownV 64 2 A0 C0 l0.length (L5.cellsF l0), Sv.ownV 64 2 A1 C1 l1.length (L5.cellsF l1), Sv.ownV 64 2 A2 C2 l2.length (L5.cellsF l2), L4.boxR w2.heap.size 26 #[.slice A0 l0.length C0], L4.boxR (w2.heap.size + 1) 26 #[.slice A1 l1.length C1], L4.boxR (w2.heap.size + 1 + 1) 26 #[.slice A2 l2.length C2], Sv.ownV 64 2 ax cx l1.length (L5.cellsF l1), L4.boxR w3.heap.size 26 #[.slice ax l1.length cx]] from L4.push_box (Sv.push_own S3.out hb ho) 26 #[.slice ax l1.length cx] w3.heap.size rfl)
      clear ho hb S3
      have f3 := (L5.Row.one (L4.box_at S4.out 3 rfl)).1
      have f4 := (L5.Row.one (L4.box_at S4.out 4 rfl)).1
      have f5 := (L5.Row.one (L4.box_at S4.out 5 rfl)).1
      have f7 := (L5.Row.one (L4.box_at S4.out 7 rfl)).1
      go_wp2_with fail
      go_at_call 21
      have HC := CC.out A0 A2 A1 C0 C2 C1 l0 l2 l1 hL0 hL2 hL1 hS0 hS2 hS1 _ (Sv.own_at S4.out 0 rfl).reads (Sv.own_at S4.out 2 rfl).reads (Sv.own_at S4.out 1 rfl).reads
      rw [e2, hm2] at HC
      refine HC.mono ?_
      rintro e w4 h
      obtain ⟨ay, cy, rfl, ho, hb⟩ := h
      clear f3 f4 f5 f7
      clear HC
      have S5 := Lib.hid (show Sl.Sep W _ [Sv.ownV 64 2 A0 C0 l0.length (L5.cellsF l0), Sv.ownV 64 2 A1 C1 l1.length (L5.cellsF l1), Sv.ownV 64 2 A2 C2 l2.length (L5.cellsF l2), L4.boxR w2.heap.size 26 #[.slice A0 l0.length C0], L4.boxR (w2.heap.size + 1) 26 #[.slice A1 l1.length C1], L4.boxR (w2.heap.size + 1 + 1) 26 #[.slice A2 l2.length C2], Sv.ownV 64 2 ax cx l1.length (L5.cellsF l1), L4.boxR w3.heap.size 26 #[.slice ax l1.length cx], Sv.ownV 64 2 ay cy l2.length (L5.cellsF l2), L4.boxR w4.heap.size 26 #[.slice ay l2.length cy]] from L4.push_box (Sv.push_own S4.out hb ho) 26 #[.slice ay l2.length cy] w4.heap.size rfl)
      clear ho hb S4
      have f3 := (L5.Row.one (L4.box_at S5.out 3 rfl)).1
      have f4 := (L5.Row.one (L4.box_at S5.out 4 rfl)).1
      have f5 := (L5.Row.one (L4.box_at S5.out 5 rfl)).1
      have f7 := (L5.Row.one (L4.box_at S5.out 7 rfl)).1
      have f9 := (L5.Row.one (L4.box_at S5.out 9 rfl)).1
      go_wp2_with fail
      go_at_call 22
      have HC := CS.out _ (Sv.own_at S5.out 0 rfl).reads (Sv.own_at S5.out 1 rfl).reads (Sv.own_at S5.out 2 rfl).reads
      rw [e1, hm] at HC
      refine HC.mono ?_
      rintro e w5 h
      obtain ⟨az, cz, rfl, ho, hb⟩ := h
      clear f3 f4 f5 f7 f9
      clear HC
      have S6 := Lib.hid (show Sl.Sep W _ [Sv.ownV 64 2 A0 C0 l0.length (L5.cellsF l0), Sv.ownV 64 2 A1 C1 l1.length (L5.cellsF l1), Sv.ownV 64 2 A2 C2 l2.length (L5.cellsF l2), L4.boxR w2.heap.size 26 #[.slice A0 l0.length C0], L4.boxR (w2.heap.size + 1) 26 #[.slice A1 l1.length C1], L4.boxR (w2.heap.size + 1 + 1) 26 #[.slice A2 l2.length C2], Sv.ownV 64 2 ax cx l1.length (L5.cellsF l1), L4.boxR w3.heap.size 26 #[.slice ax l1.length cx], Sv.ownV 64 2 ay cy l2.length (L5.cellsF l2), L4.boxR w4.heap.size 26 #[.slice ay l2.length cy], Sv.ownV 64 2 az cz l1.length (L5.cellsF l1), L4.boxR w5.heap.size 26 #[.slice az l1.length cz]] from L4.push_box (Sv.push_own S5.out hb ho) 26 #[.slice az l1.length cz] w5.heap.size rfl)
      clear ho hb S5
      have f3 := (L5.Row.one (L4.box_at S6.out 3 rfl)).1
      have f4 := (L5.Row.one (L4.box_at S6.out 4 rfl)).1
      have f5 := (L5.Row.one (L4.box_at S6.out 5 rfl)).1
      have f7 := (L5.Row.one (L4.box_at S6.out 7 rfl)).1
      have f9 := (L5.Row.one (L4.box_at S6.out 9 rfl)).1
      have f11 := (L5.Row.one (L4.box_at S6.out 11 rfl)).1
      go_wp2_with fail
      go_at_call 12
      refine (L5.equalRecords_any ax A1 cx C1 l1 l1 (by omega) (by omega) _ (Sv.own_at S6.out 6 rfl).reads (Sv.own_at S6.out 1 rfl).reads).mono ?_
      rw [eqR_self]
      rintro e w6 ⟨rfl, hb⟩
      clear f3 f4 f5 f7 f9 f11
      have S7 := Lib.hid (S6.out.keep hb)
      clear hb S6
      have f3 := (L5.Row.one (L4.box_at S7.out 3 rfl)).1
      have f4 := (L5.Row.one (L4.box_at S7.out 4 rfl)).1
      have f5 := (L5.Row.one (L4.box_at S7.out 5 rfl)).1
      have f7 := (L5.Row.one (L4.box_at S7.out 7 rfl)).1
      have f9 := (L5.Row.one (L4.box_at S7.out 9 rfl)).1
      have f11 := (L5.Row.one (L4.box_at S7.out 11 rfl)).1
      go_wp2_with fail
      go_ret
      exact ⟨rfl, S7.out.old⟩
    | true =>
      obtain ⟨hm2, e2⟩ := L5.mgs_turn hm
      obtain ⟨hm3, e3⟩ := L5.mgs_right hm
      obtain ⟨hm4, e4⟩ := L5.mgs_left hm
      obtain ⟨hm5, e5⟩ := L5.mgs_self hm
      obtain ⟨X, hX⟩ : ∃ X, L5.mgL l0 l1 l2 = X := ⟨_, rfl⟩
      rw [hX] at e2 HXL
      have hXl : X.length ≤ 1099511627776 := HXL.out
      have f3 := (L5.Row.one (L4.box_at S3.out 3 rfl)).1
      have f4 := (L5.Row.one (L4.box_at S3.out 4 rfl)).1
      have f5 := (L5.Row.one (L4.box_at S3.out 5 rfl)).1
      go_wp2_with fail
      go_at_call 21
      have HC := CC.out A0 A1 A2 C0 C1 C2 l0 l1 l2 hL0 hL1 hL2 hS0 hS1 hS2 _ (Sv.own_at S3.out 0 rfl).reads (Sv.own_at S3.out 1 rfl).reads (Sv.own_at S3.out 2 rfl).reads
      rw [hX, hm] at HC
      refine HC.mono ?_
      rintro e w3 h
      obtain ⟨ax, cx, rfl, ho, hb⟩ := h
      clear f3 f4 f5
      clear HC
      have S4 := Lib.hid (show Sl.Sep W _ [Sv.ownV 64 2 A0 C0 l0.length (L5.cellsF l0), Sv.ownV 64 2 A1 C1 l1.length (L5.cellsF l1), Sv.ownV 64 2 A2 C2 l2.length (L5.cellsF l2), L4.boxR w2.heap.size 26 #[.slice A0 l0.length C0], L4.boxR (w2.heap.size + 1) 26 #[.slice A1 l1.length C1], L4.boxR (w2.heap.size + 1 + 1) 26 #[.slice A2 l2.length C2], Sv.ownV 64 2 ax cx X.length (L5.cellsF X), L4.boxR w3.heap.size 26 #[.slice ax X.length cx]] from L4.push_box (Sv.push_own S3.out hb ho) 26 #[.slice ax X.length cx] w3.heap.size rfl)
      clear ho hb S3
      have f3 := (L5.Row.one (L4.box_at S4.out 3 rfl)).1
      have f4 := (L5.Row.one (L4.box_at S4.out 4 rfl)).1
      have f5 := (L5.Row.one (L4.box_at S4.out 5 rfl)).1
      have f7 := (L5.Row.one (L4.box_at S4.out 7 rfl)).1
      go_wp2_with fail
      go_at_call 21
      have HC := CC.out A0 A2 A1 C0 C2 C1 l0 l2 l1 hL0 hL2 hL1 hS0 hS2 hS1 _ (Sv.own_at S4.out 0 rfl).reads (Sv.own_at S4.out 2 rfl).reads (Sv.own_at S4.out 1 rfl).reads
      rw [e2, hm2] at HC
      refine HC.mono ?_
      rintro e w4 h
      obtain ⟨ay, cy, rfl, ho, hb⟩ := h
      clear f3 f4 f5 f7
      clear HC
      have S5 := Lib.hid (show Sl.Sep W _ [Sv.ownV 64 2 A0 C0 l0.length (L5.cellsF l0), Sv.ownV 64 2 A1 C1 l1.length (L5.cellsF l1), Sv.ownV 64 2 A2 C2 l2.length (L5.cellsF l2), L4.boxR w2.heap.size 26 #[.slice A0 l0.length C0], L4.boxR (w2.heap.size + 1) 26 #[.slice A1 l1.length C1], L4.boxR (w2.heap.size + 1 + 1) 26 #[.slice A2 l2.length C2], Sv.ownV 64 2 ax cx X.length (L5.cellsF X), L4.boxR w3.heap.size 26 #[.slice ax X.length cx], Sv.ownV 64 2 ay cy X.length (L5.cellsF X), L4.boxR w4.heap.size 26 #[.slice ay X.length cy]] from L4.push_box (Sv.push_own S4.out hb ho) 26 #[.slice ay X.length cy] w4.heap.size rfl)
      clear ho hb S4
      have f3 := (L5.Row.one (L4.box_at S5.out 3 rfl)).1
      have f4 := (L5.Row.one (L4.box_at S5.out 4 rfl)).1
      have f5 := (L5.Row.one (L4.box_at S5.out 5 rfl)).1
      have f7 := (L5.Row.one (L4.box_at S5.out 7 rfl)).1
      have f9 := (L5.Row.one (L4.box_at S5.out 9 rfl)).1
      go_wp2_with fail
      go_at_call 22
      have HC := CS.out _ (Sv.own_at S5.out 0 rfl).reads (Sv.own_at S5.out 1 rfl).reads (Sv.own_at S5.out 2 rfl).reads
      rw [hX, hm] at HC
      refine HC.mono ?_
      rintro e w5 h
      obtain ⟨az, cz, rfl, ho, hb⟩ := h
      clear f3 f4 f5 f7 f9
      clear HC
      have S6 := Lib.hid (show Sl.Sep W _ [Sv.ownV 64 2 A0 C0 l0.length (L5.cellsF l0), Sv.ownV 64 2 A1 C1 l1.length (L5.cellsF l1), Sv.ownV 64 2 A2 C2 l2.length (L5.cellsF l2), L4.boxR w2.heap.size 26 #[.slice A0 l0.length C0], L4.boxR (w2.heap.size + 1) 26 #[.slice A1 l1.length C1], L4.boxR (w2.heap.size + 1 + 1) 26 #[.slice A2 l2.length C2], Sv.ownV 64 2 ax cx X.length (L5.cellsF X), L4.boxR w3.heap.size 26 #[.slice ax X.length cx], Sv.ownV 64 2 ay cy X.length (L5.cellsF X), L4.boxR w4.heap.size 26 #[.slice ay X.length cy], Sv.ownV 64 2 az cz X.length (L5.cellsF X), L4.boxR w5.heap.size 26 #[.slice az X.length cz]] from L4.push_box (Sv.push_own S5.out hb ho) 26 #[.slice az X.length cz] w5.heap.size rfl)
      clear ho hb S5
      have f3 := (L5.Row.one (L4.box_at S6.out 3 rfl)).1
      have f4 := (L5.Row.one (L4.box_at S6.out 4 rfl)).1
      have f5 := (L5.Row.one (L4.box_at S6.out 5 rfl)).1
      have f7 := (L5.Row.one (L4.box_at S6.out 7 rfl)).1
      have f9 := (L5.Row.one (L4.box_at S6.out 9 rfl)).1
      have f11 := (L5.Row.one (L4.box_at S6.out 11 rfl)).1
      go_wp2_with fail
      go_at_call 21
      have HC := CC.out A0 A1 A0 C0 C1 C0 l0 l1 l0 hL0 hL1 hL0 hS0 hS1 hS0 _ (Sv.own_at S6.out 0 rfl).reads (Sv.own_at S6.out 1 rfl).reads (Sv.own_at S6.out 0 rfl).reads
      rw [e3, hm3] at HC
      refine HC.mono ?_
      rintro e w6 h
      obtain ⟨ap, cp, rfl, ho, hb⟩ := h
      clear f3 f4 f5 f7 f9 f11
      clear HC
      have S7 := Lib.hid (show Sl.Sep W _ [Sv.ownV 64 2 A0 C0 l0.length (L5.cellsF l0), Sv.ownV 64 2 A1 C1 l1.length (L5.cellsF l1), Sv.ownV 64 2 A2 C2 l2.length (L5.cellsF l2), L4.boxR w2.heap.size 26 #[.slice A0 l0.length C0], L4.boxR (w2.heap.size + 1) 26 #[.slice A1 l1.length C1], L4.boxR (w2.heap.size + 1 + 1) 26 #[.slice A2 l2.length C2], Sv.ownV 64 2 ax cx X.length (L5.cellsF X), L4.boxR w3.heap.size 26 #[.slice ax X.length cx], Sv.ownV 64 2 ay cy X.length (L5.cellsF X), L4.boxR w4.heap.size 26 #[.slice ay X.length cy], Sv.ownV 64 2 az cz X.length (L5.cellsF X), L4.boxR w5.heap.size 26 #[.slice az X.length cz], Sv.ownV 64 2 ap cp l1.length (L5.cellsF l1), L4.boxR w6.heap.size 26 #[.slice ap l1.length cp]] from L4.push_box (Sv.push_own S6.out hb ho) 26 #[.slice ap l1.length cp] w6.heap.size rfl)
      clear ho hb S6
      have f3 := (L5.Row.one (L4.box_at S7.out 3 rfl)).1
      have f4 := (L5.Row.one (L4.box_at S7.out 4 rfl)).1
      have f5 := (L5.Row.one (L4.box_at S7.out 5 rfl)).1
      have f7 := (L5.Row.one (L4.box_at S7.out 7 rfl)).1
      have f9 := (L5.Row.one (L4.box_at S7.out 9 rfl)).1
      have f11 := (L5.Row.one (L4.box_at S7.out 11 rfl)).1
      have f13 := (L5.Row.one (L4.box_at S7.out 13 rfl)).1
      go_wp2_with fail
      go_at_call 21
      have HC := CC.out A0 A0 A2 C0 C0 C2 l0 l0 l2 hL0 hL0 hL2 hS0 hS0 hS2 _ (Sv.own_at S7.out 0 rfl).reads (Sv.own_at S7.out 0 rfl).reads (Sv.own_at S7.out 2 rfl).reads
      rw [e4, hm4] at HC
      refine HC.mono ?_
      rintro e w7 h
      obtain ⟨aq, cq, rfl, ho, hb⟩ := h
      clear f3 f4 f5 f7 f9 f11 f13
      clear HC
      have S8 := Lib.hid (show Sl.Sep W _ [Sv.ownV 64 2 A0 C0 l0.length (L5.cellsF l0), Sv.ownV 64 2 A1 C1 l1.length (L5.cellsF l1), Sv.ownV 64 2 A2 C2 l2.length (L5.cellsF l2), L4.boxR w2.heap.size 26 #[.slice A0 l0.length C0], L4.boxR (w2.heap.size + 1) 26 #[.slice A1 l1.length C1], L4.boxR (w2.heap.size + 1 + 1) 26 #[.slice A2 l2.length C2], Sv.ownV 64 2 ax cx X.length (L5.cellsF X), L4.boxR w3.heap.size 26 #[.slice ax X.length cx], Sv.ownV 64 2 ay cy X.length (L5.cellsF X), L4.boxR w4.heap.size 26 #[.slice ay X.length cy], Sv.ownV 64 2 az cz X.length (L5.cellsF X), L4.boxR w5.heap.size 26 #[.slice az X.length cz], Sv.ownV 64 2 ap cp l1.length (L5.cellsF l1), L4.boxR w6.heap.size 26 #[.slice ap l1.length cp], Sv.ownV 64 2 aq cq l2.length (L5.cellsF l2), L4.boxR w7.heap.size 26 #[.slice aq l2.length cq]] from L4.push_box (Sv.push_own S7.out hb ho) 26 #[.slice aq l2.length cq] w7.heap.size rfl)
      clear ho hb S7
      have f3 := (L5.Row.one (L4.box_at S8.out 3 rfl)).1
      have f4 := (L5.Row.one (L4.box_at S8.out 4 rfl)).1
      have f5 := (L5.Row.one (L4.box_at S8.out 5 rfl)).1
      have f7 := (L5.Row.one (L4.box_at S8.out 7 rfl)).1
      have f9 := (L5.Row.one (L4.box_at S8.out 9 rfl)).1
      have f11 := (L5.Row.one (L4.box_at S8.out 11 rfl)).1
      have f13 := (L5.Row.one (L4.box_at S8.out 13 rfl)).1
      have f15 := (L5.Row.one (L4.box_at S8.out 15 rfl)).1
      go_wp2_with fail
      go_at_call 21
      have HC := CC.out A0 A1 A1 C0 C1 C1 l0 l1 l1 hL0 hL1 hL1 hS0 hS1 hS1 _ (Sv.own_at S8.out 0 rfl).reads (Sv.own_at S8.out 1 rfl).reads (Sv.own_at S8.out 1 rfl).reads
      rw [e5, hm5] at HC
      refine HC.mono ?_
      rintro e w8 h
      obtain ⟨ar, cr, rfl, ho, hb⟩ := h
      clear f3 f4 f5 f7 f9 f11 f13 f15
      clear HC
      have S9 := Lib.hid (show Sl.Sep W _ [Sv.ownV 64 2 A0 C0 l0.length (L5.cellsF l0), Sv.ownV 64 2 A1 C1 l1.length (L5.cellsF l1), Sv.ownV 64 2 A2 C2 l2.length (L5.cellsF l2), L4.boxR w2.heap.size 26 #[.slice A0 l0.length C0], L4.boxR (w2.heap.size + 1) 26 #[.slice A1 l1.length C1], L4.boxR (w2.heap.size + 1 + 1) 26 #[.slice A2 l2.length C2], Sv.ownV 64 2 ax cx X.length (L5.cellsF X), L4.boxR w3.heap.size 26 #[.slice ax X.length cx], Sv.ownV 64 2 ay cy X.length (L5.cellsF X), L4.boxR w4.heap.size 26 #[.slice ay X.length cy], Sv.ownV 64 2 az cz X.length (L5.cellsF X), L4.boxR w5.heap.size 26 #[.slice az X.length cz], Sv.ownV 64 2 ap cp l1.length (L5.cellsF l1), L4.boxR w6.heap.size 26 #[.slice ap l1.length cp], Sv.ownV 64 2 aq cq l2.length (L5.cellsF l2), L4.boxR w7.heap.size 26 #[.slice aq l2.length cq], Sv.ownV 64 2 ar cr l1.length (L5.cellsF l1), L4.boxR w8.heap.size 26 #[.slice ar l1.length cr]] from L4.push_box (Sv.push_own S8.out hb ho) 26 #[.slice ar l1.length cr] w8.heap.size rfl)
      clear ho hb S8
      have f3 := (L5.Row.one (L4.box_at S9.out 3 rfl)).1
      have f4 := (L5.Row.one (L4.box_at S9.out 4 rfl)).1
      have f5 := (L5.Row.one (L4.box_at S9.out 5 rfl)).1
      have f7 := (L5.Row.one (L4.box_at S9.out 7 rfl)).1
      have f9 := (L5.Row.one (L4.box_at S9.out 9 rfl)).1
      have f11 := (L5.Row.one (L4.box_at S9.out 11 rfl)).1
      have f13 := (L5.Row.one (L4.box_at S9.out 13 rfl)).1
      have f15 := (L5.Row.one (L4.box_at S9.out 15 rfl)).1
      have f17 := (L5.Row.one (L4.box_at S9.out 17 rfl)).1
      go_wp2_with fail
      go_at_call 12
      refine (L5.equalRecords_any ax ay cx cy X X hXl hXl _ (Sv.own_at S9.out 6 rfl).reads (Sv.own_at S9.out 8 rfl).reads).mono ?_
      rw [eqR_self]
      rintro e w9 ⟨rfl, hb⟩
      clear f3 f4 f5 f7 f9 f11 f13 f15 f17
      have S10 := Lib.hid (S9.out.keep hb)
      clear hb S9
      have f3 := (L5.Row.one (L4.box_at S10.out 3 rfl)).1
      have f4 := (L5.Row.one (L4.box_at S10.out 4 rfl)).1
      have f5 := (L5.Row.one (L4.box_at S10.out 5 rfl)).1
      have f7 := (L5.Row.one (L4.box_at S10.out 7 rfl)).1
      have f9 := (L5.Row.one (L4.box_at S10.out 9 rfl)).1
      have f11 := (L5.Row.one (L4.box_at S10.out 11 rfl)).1
      have f13 := (L5.Row.one (L4.box_at S10.out 13 rfl)).1
      have f15 := (L5.Row.one (L4.box_at S10.out 15 rfl)).1
      have f17 := (L5.Row.one (L4.box_at S10.out 17 rfl)).1
      go_wp2_with fail
      go_at_call 12
      refine (L5.equalRecords_any ap A1 cp C1 l1 l1 (by omega) (by omega) _ (Sv.own_at S10.out 12 rfl).reads (Sv.own_at S10.out 1 rfl).reads).mono ?_
      rw [eqR_self]
      rintro e w10 ⟨rfl, hb⟩
      clear f3 f4 f5 f7 f9 f11 f13 f15 f17
      have S11 := Lib.hid (S10.out.keep hb)
      clear hb S10
      have f3 := (L5.Row.one (L4.box_at S11.out 3 rfl)).1
      have f4 := (L5.Row.one (L4.box_at S11.out 4 rfl)).1
      have f5 := (L5.Row.one (L4.box_at S11.out 5 rfl)).1
      have f7 := (L5.Row.one (L4.box_at S11.out 7 rfl)).1
      have f9 := (L5.Row.one (L4.box_at S11.out 9 rfl)).1
      have f11 := (L5.Row.one (L4.box_at S11.out 11 rfl)).1
      have f13 := (L5.Row.one (L4.box_at S11.out 13 rfl)).1
      have f15 := (L5.Row.one (L4.box_at S11.out 15 rfl)).1
      have f17 := (L5.Row.one (L4.box_at S11.out 17 rfl)).1
      go_wp2_with fail
      go_at_call 12
      refine (L5.equalRecords_any aq A2 cq C2 l2 l2 (by omega) (by omega) _ (Sv.own_at S11.out 14 rfl).reads (Sv.own_at S11.out 2 rfl).reads).mono ?_
      rw [eqR_self]
      rintro e w11 ⟨rfl, hb⟩
      clear f3 f4 f5 f7 f9 f11 f13 f15 f17
      have S12 := Lib.hid (S11.out.keep hb)
      clear hb S11
      have f3 := (L5.Row.one (L4.box_at S12.out 3 rfl)).1
      have f4 := (L5.Row.one (L4.box_at S12.out 4 rfl)).1
      have f5 := (L5.Row.one (L4.box_at S12.out 5 rfl)).1
      have f7 := (L5.Row.one (L4.box_at S12.out 7 rfl)).1
      have f9 := (L5.Row.one (L4.box_at S12.out 9 rfl)).1
      have f11 := (L5.Row.one (L4.box_at S12.out 11 rfl)).1
      have f13 := (L5.Row.one (L4.box_at S12.out 13 rfl)).1
      have f15 := (L5.Row.one (L4.box_at S12.out 15 rfl)).1
      have f17 := (L5.Row.one (L4.box_at S12.out 17 rfl)).1
      go_wp2_with fail
      go_at_call 12
      refine (L5.equalRecords_any ar A1 cr C1 l1 l1 (by omega) (by omega) _ (Sv.own_at S12.out 16 rfl).reads (Sv.own_at S12.out 1 rfl).reads).mono ?_
      rw [eqR_self]
      rintro e w12 ⟨rfl, hb⟩
      clear f3 f4 f5 f7 f9 f11 f13 f15 f17
      have S13 := Lib.hid (S12.out.keep hb)
      clear hb S12
      have f3 := (L5.Row.one (L4.box_at S13.out 3 rfl)).1
      have f4 := (L5.Row.one (L4.box_at S13.out 4 rfl)).1
      have f5 := (L5.Row.one (L4.box_at S13.out 5 rfl)).1
      have f7 := (L5.Row.one (L4.box_at S13.out 7 rfl)).1
      have f9 := (L5.Row.one (L4.box_at S13.out 9 rfl)).1
      have f11 := (L5.Row.one (L4.box_at S13.out 11 rfl)).1
      have f13 := (L5.Row.one (L4.box_at S13.out 13 rfl)).1
      have f15 := (L5.Row.one (L4.box_at S13.out 15 rfl)).1
      have f17 := (L5.Row.one (L4.box_at S13.out 17 rfl)).1
      go_wp2_with fail
      go_ret
      exact ⟨rfl, S13.out.old⟩

set_option maxRecDepth 100000 in
theorem lifted (os : Os) (started : os.Started) (H : Type) (enc : TypeId × Value → H) :
    ReturnsInHanded {} Try.checked os 4 .any (Rows.fnMergesSpec.pre6 enc Try.prog Try.f4 Rows.fnMergesRow.domain false) (Rows.fnMergesSpec.post enc Try.prog Try.f4 false true false false) := by
  refine returnsInHanded_of_change_sized (C := Try.checked) own started (by kernel_rfl) Try.func4
    (ChangeSpec.witness6 (enc := enc) (C := Try.checked) false ⟨#[], #[.slice none 0 0], []⟩ 8 (by kernel_rfl) (by kernel_rfl) (by kernel_rfl) (by kernel_rfl)) ?_
  intro W base args ds gs before hval0 hW _ hsz0 _
  have hval : ∀ (j : Nat) t v, Try.f4.params[j]? = some t → args[j]? = some v → Value.okWide Try.prog W .any base t v := hval0
  have hW' := hW
  obtain ⟨p, q, hA0, hV, rfl, _, _⟩ := hW
  have hA : DataW.TrodAll enc Try.prog W 0 (fun _ => true) true Try.f4.params.toList args.toList ds p := hA0
  obtain ⟨rfl, rfl⟩ := trodVars_none hV
  have hlt : ∀ x ∈ p, x.block < W.heap.size := fun x hx => hW'.lt x (by simpa using hx)
  simp only [List.append_nil] at hW'
  have hw := walk H enc W base args ds p hval hA hlt hsz0
  have hA1 := hA
  clear hA0 hval0 hsz0 hval hlt
  rw [Try.params4] at hA
  obtain ⟨v0, vs0, d0, ds0, p0, q0, e0, rfl, rfl, h0, hr0⟩ := trodAll_cons hA
  obtain ⟨e1, rfl, rfl⟩ := trodAll_nil hr0
  refine hw.mono fun e W' ⟨he, hb⟩ => ?_
  subst he
  exact ⟨_, rfl, Frame.law_post (tb := 4) rfl hW' hA1 rfl rfl rfl laidOut (by kernel_rfl) (by kernel_rfl) Try.underlying4 hb⟩

theorem holds : Rows.FnMergesSaid :=
  OpenClaim.holds_of_wide 4 Try.f4 rfl rfl rfl rfl rfl rfl rfl ⟨rfl, rfl, rfl, rfl, rfl⟩ rfl rfl rfl rfl rfl (by kernel_rfl) Try.func4 (by kernel_rfl)
    (of_decide_eq_true (by kernel_rfl)) (by unfold Func.isWrapper; first | (rw [if_pos (by decide +kernel)]; kernel_rfl) | (rw [if_neg (by decide +kernel)]; exact ⟨rfl, rfl⟩))
    (fun os started H enc _ => lifted os started H enc)

#print axioms holds
end Go.Proofs.Ytephiilicebdcaa.lawFnMerges
