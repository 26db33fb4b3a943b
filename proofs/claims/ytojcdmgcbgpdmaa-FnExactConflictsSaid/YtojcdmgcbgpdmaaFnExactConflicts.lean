import Derived.Test.YtojcdmgcbgpdmaaFnExactConflictsP1
import Derived.Test.YtojcdmgcbgpdmaaClosed
import Derived.JoinedOf
import Derived.SizedLaws
import Derived.LaidLaws
import Derived.ShutString
import Derived.Stop.LaidErr
import Derived.Lib.LaidTab
import Derived.Deep.RegionHeld3
import Derived.Deep.DeepCutAuto
namespace Go.Proofs.Ytojcdmgcbgpdmaa.lawFnExactConflicts
open Go.ChangeShapes Go.WideShapes Go.ChangeAt Go.RowKit
open Go.ChangeMaps (open_string shut_string)
theorem own : ownKnob Try.prog.godebug = none := by kernel_rfl
theorem laidOut : laidOutB Try.prog = true := by kernel_rfl
open Mem Sl Bag
open Go.Proofs.Ytojcdmgcbgpdmaa.L5 (cellsF)
set_option maxRecDepth 100000 in
set_option maxHeartbeats 8000000 in
theorem walk (H : Type) (enc : TypeId × Value → H) (W : World) (base : Nat) (args : Array Value) (ds : List (DataW H)) (p : List MemPlace)
  (hval : ∀ (j : Nat) t v, Try.f12.params[j]? = some t → args[j]? = some v → Value.okWide Try.prog W .any base t v)
  (hA : DataW.TrodAll enc Try.prog W 0 (fun _ => true) true Try.f12.params.toList args.toList ds p)
  (hlt : ∀ x ∈ p, x.block < W.heap.size)
  (hsz : (DataW.weightsEach Try.prog (Try.f12.params.toList ++ Rows.fnExactConflictsSpec.plain.varTypes Try.prog) (ds ++ [])).all (· ≤ reachBytes) = true) :
  Calls Try.prog 12 args W fun e w' => e = .returned (.bool true) ∧ Below W.heap.size W w' := by
 rw [Try.params12] at hA hval hsz
 obtain ⟨v0, vs0, d0, ds0, p0, q0, e0, rfl, rfl, h0, g0⟩ := trodAll_cons hA
 obtain ⟨v1, vs1, d1, ds1, p1, q1, e1, rfl, rfl, h1, g1⟩ := trodAll_cons g0
 obtain ⟨ez, rfl, rfl⟩ := trodAll_nil g1
 subst ez
 subst e1
 obtain rfl : args = #[v0, v1] := Array.toList_inj.1 e0
 clear e0
 obtain ⟨y0, rfl, hR0, hW0⟩ := V.open_OpZ (hval 0 78 v0 rfl rfl) h0 (fun x hx => hlt x (by simp [hx]))
 obtain ⟨y1, rfl, hR1, hW1⟩ := V.open_OpZ (hval 1 78 v1 rfl rfl) h1 (fun x hx => hlt x (by simp [hx]))
 clear hval hA hlt hsz h0 h1
 have HSZ0 := Lib.hid (fun (q : Int) (h0 : -1 ≤ q) (h1 : q ≤ 1048576) (w' : World) (h : Below W.heap.size W w') => (V.sz_OpZ y0 q hW0 h0 h1 w' ((hR0.below h).more h.size)).mono (R' := fun e w2 => ∃ u : Int, e = .returned (.int .i64 u) ∧ (-1 ≤ u ∧ u ≤ 1048576 ∧ (0 ≤ u → V.wt_OpZ (V.co_OpZ y0) ≤ 1048576)) ∧ Below w'.heap.size w' w2) fun e w2 ⟨he, hb⟩ => by obtain ⟨u, hu, hq⟩ := (show ∃ u : Int, V.lft q (V.wt_OpZ (V.co_OpZ y0)) = u ∧ (-1 ≤ u ∧ u ≤ 1048576 ∧ (0 ≤ u → V.wt_OpZ (V.co_OpZ y0) ≤ 1048576)) from ⟨_, rfl, (V.lft_range _ h1).1, (V.lft_range _ h1).2, fun h3 => (V.lft_small (by omega) h1).1⟩); exact ⟨u, by rw [he, hu], hq, hb⟩)
 have HRY0 := Lib.hid (fun w' (h : Below W.heap.size W w') => ((hR0.below h).more h.size : RowsRd w' w'.heap.size (V.rw_OpZ y0)))
 clear hR0 hW0
 try dsimp only [V.vv_OpZ] at HSZ0
 have HSZ1 := Lib.hid (fun (q : Int) (h0 : -1 ≤ q) (h1 : q ≤ 1048576) (w' : World) (h : Below W.heap.size W w') => (V.sz_OpZ y1 q hW1 h0 h1 w' ((hR1.below h).more h.size)).mono (R' := fun e w2 => ∃ u : Int, e = .returned (.int .i64 u) ∧ (-1 ≤ u ∧ u ≤ 1048576 ∧ (0 ≤ u → V.wt_OpZ (V.co_OpZ y1) ≤ 1048576)) ∧ Below w'.heap.size w' w2) fun e w2 ⟨he, hb⟩ => by obtain ⟨u, hu, hq⟩ := (show ∃ u : Int, V.lft q (V.wt_OpZ (V.co_OpZ y1)) = u ∧ (-1 ≤ u ∧ u ≤ 1048576 ∧ (0 ≤ u → V.wt_OpZ (V.co_OpZ y1) ≤ 1048576)) from ⟨_, rfl, (V.lft_range _ h1).1, (V.lft_range _ h1).2, fun h3 => (V.lft_small (by omega) h1).1⟩); exact ⟨u, by rw [he, hu], hq, hb⟩)
 have HRY1 := Lib.hid (fun w' (h : Below W.heap.size W w') => ((hR1.below h).more h.size : RowsRd w' w'.heap.size (V.rw_OpZ y1)))
 clear hR1 hW1
 try dsimp only [V.vv_OpZ] at HSZ1
 try dsimp only [V.vv_OpZ]
 have S1 := Lib.hid (show Sl.Sep W W [] from Sl.Sep.start W)
 go_enter Try.func12, Try.ntmps12
 go_upto_region 1 with fail
 go_wp2_with fail
 go_at_call 50
 have HC := HSZ0.out 1048576 (by omega) (by omega) _ S1.out.old
 try dsimp only [V.vv_OpZ] at HC
 refine HC.mono ?_
 clear HC
 rintro e w1 ⟨u0, rfl, ro, hb⟩
 have S2 := Lib.hid (S1.out.keep hb)
 clear S1
 clear hb
 have HRO0 := Lib.hid ro
 have X0 : -1 ≤ u0 ∧ u0 ≤ 1048576 := ⟨ro.1, ro.2.1⟩
 clear ro
 by_cases neg0 : u0 < 0
 ·
  skip
  go_wp2_with fail
  go_ret
  exact ⟨rfl, S2.out.old⟩
 have HF0 := Lib.hid (HRO0.out.2.2 (by omega))
 go_wp2_with fail
 go_at_call 50
 have HC := HSZ1.out u0 (by omega) (by omega) _ S2.out.old
 try dsimp only [V.vv_OpZ] at HC
 refine HC.mono ?_
 clear HC
 rintro e w2 ⟨u1, rfl, ro, hb⟩
 have S3 := Lib.hid (S2.out.keep hb)
 clear S2
 clear hb
 have HRO1 := Lib.hid ro
 have X1 : -1 ≤ u1 ∧ u1 ≤ 1048576 := ⟨ro.1, ro.2.1⟩
 clear ro
 by_cases neg1 : u1 < 0
 ·
  skip
  go_wp2_with fail
  go_ret
  exact ⟨rfl, S3.out.old⟩
 have HF1 := Lib.hid (HRO1.out.2.2 (by omega))
 obtain ⟨C0, hC0⟩ : ∃ C, V.co_OpZ y0 = C := ⟨_, rfl⟩
 rw [hC0] at HF0
 have HC0 := Lib.hid hC0
 clear hC0
 obtain ⟨C1, hC1⟩ : ∃ C, V.co_OpZ y1 = C := ⟨_, rfl⟩
 rw [hC1] at HF1
 have HC1 := Lib.hid hC1
 clear hC1
 obtain ⟨r0', hr0'⟩ : ∃ r : Bool, L10.conf C0 C1 = r := ⟨_, rfl⟩
 have Cspec : ∀ (z0 : V.Y_OpZ), V.co_OpZ z0 = C0 → ∀ (z1 : V.Y_OpZ), V.co_OpZ z1 = C1 → ∀ w' : World, RowsRd w' w'.heap.size (V.rw_OpZ z0) → RowsRd w' w'.heap.size (V.rw_OpZ z1) → Calls Try.prog 71 #[.slice z0.a z0.xs.length z0.c, .slice z1.a z1.xs.length z1.c] w' fun e w'' => e = .returned (.bool r0') ∧ Below w'.heap.size w' w'' := by
  intro z0 hz0 z1 hz1 w' hr0 hr1
  have hf0 : V.wt_OpZ (V.co_OpZ z0) ≤ 1048576 := by rw [hz0]; exact HF0.out
  have hf1 : V.wt_OpZ (V.co_OpZ z1) ≤ 1048576 := by rw [hz1]; exact HF1.out
  have h := (show Calls Try.prog 71 #[.slice z0.a z0.xs.length z0.c, .slice z1.a z1.xs.length z1.c] w' (fun e w'' => e = .returned (.bool (L10.conf (V.co_OpZ z0) (V.co_OpZ z1))) ∧ Below w'.heap.size w' w'') from L10.specConflicts_any z0.a z0.c z0.xs (L9.fitZ hf0).1 (L9.fitZ hf0).2 z1.a z1.c z1.xs (L9.fitZ hf1).1 (L9.fitZ hf1).2 w' (V.rd_OpZ hr0) (V.rx_OpZ hr0) (V.rd_OpZ hr1) (V.rx_OpZ hr1))
  rw [hz0, hz1, hr0'] at h
  exact h
 replace Cspec := Lib.hid Cspec
 have Cimpl : ∀ (z0 : V.Y_OpZ), V.co_OpZ z0 = C0 → ∀ (z1 : V.Y_OpZ), V.co_OpZ z1 = C1 → ∀ w' : World, RowsRd w' w'.heap.size (V.rw_OpZ z0) → RowsRd w' w'.heap.size (V.rw_OpZ z1) → Calls Try.prog 72 #[.slice z0.a z0.xs.length z0.c, .slice z1.a z1.xs.length z1.c] w' fun e w'' => e = .returned (.bool r0') ∧ Below w'.heap.size w' w'' := by
  intro z0 hz0 z1 hz1 w' hr0 hr1
  have hf0 : V.wt_OpZ (V.co_OpZ z0) ≤ 1048576 := by rw [hz0]; exact HF0.out
  have hf1 : V.wt_OpZ (V.co_OpZ z1) ≤ 1048576 := by rw [hz1]; exact HF1.out
  have h := (show Calls Try.prog 72 #[.slice z0.a z0.xs.length z0.c, .slice z1.a z1.xs.length z1.c] w' (fun e w'' => e = .returned (.bool (L10.conf (V.co_OpZ z0) (V.co_OpZ z1))) ∧ Below w'.heap.size w' w'') from L10.conflicts_any z0.a z0.c z0.xs (L9.fitZ hf0).1 z1.a z1.c z1.xs (L9.fitZ hf1).1 w' (V.rd_OpZ hr0) (V.rd_OpZ hr1))
  rw [hz0, hz1, hr0'] at h
  exact h
 replace Cimpl := Lib.hid Cimpl
 clear hr0'
 go_wp2_with fail
 go_at_call 52
 have HC := V.to_OpZ y0 (by rw [HC0.out]; exact HF0.out) _ (HRY0.out _ S3.out.old)
 try dsimp only [V.vv_OpZ] at HC
 refine HC.mono ?_
 clear HC
 rintro e w3 ⟨z1', rfl, hcon, ho, hb⟩
 have S4 := Lib.hid (show Sl.Sep W _ [Bag.bag (V.rw_OpZ z1')] from Bag.push_bag S3.out hb ho)
 clear S3
 clear hb ho
 have HZz1' := Lib.hid (hcon.trans HC0.out)
 clear hcon
 try dsimp only [V.vv_OpZ]
 go_wp2_with fail
 go_at_call 52
 have HC := V.to_OpZ y1 (by rw [HC1.out]; exact HF1.out) _ (HRY1.out _ S4.out.old)
 try dsimp only [V.vv_OpZ] at HC
 refine HC.mono ?_
 clear HC
 rintro e w4 ⟨z2', rfl, hcon, ho, hb⟩
 have S5 := Lib.hid (show Sl.Sep W _ [_, Bag.bag (V.rw_OpZ z2')] from Bag.push_bag S4.out hb ho)
 clear S4
 clear hb ho
 have HZz2' := Lib.hid (hcon.trans HC1.out)
 clear hcon
 try dsimp only [V.vv_OpZ]
 go_wp2_with fail
 go_at_call 71
 have HC := Cspec.out z1' HZz1'.out z2' HZz2'.out _ (Bag.bag_rd S5.out 0 rfl) (Bag.bag_rd S5.out 1 rfl)
 try dsimp only [V.vv_OpZ] at HC
 refine HC.mono ?_
 clear HC
 rintro e w5 ⟨rfl, hb⟩
 have S6 := Lib.hid (S5.out.keep hb)
 clear S5
 clear hb
 have S7 := Lib.hid (show Sl.Sep W _ [] from Bag.take S6.out [] (by rfl) (by decide))
 clear S6
 go_wp2_with fail
 go_at_call 52
 have HC := V.to_OpZ y0 (by rw [HC0.out]; exact HF0.out) _ (HRY0.out _ S7.out.old)
 try dsimp only [V.vv_OpZ] at HC
 refine HC.mono ?_
 clear HC
 rintro e w6 ⟨z4', rfl, hcon, ho, hb⟩
 have S8 := Lib.hid (show Sl.Sep W _ [Bag.bag (V.rw_OpZ z4')] from Bag.push_bag S7.out hb ho)
 clear S7
 clear hb ho
 have HZz4' := Lib.hid (hcon.trans HC0.out)
 clear hcon
 try dsimp only [V.vv_OpZ]
 go_wp2_with fail
 go_at_call 52
 have HC := V.to_OpZ y1 (by rw [HC1.out]; exact HF1.out) _ (HRY1.out _ S8.out.old)
 try dsimp only [V.vv_OpZ] at HC
 refine HC.mono ?_
 clear HC
 rintro e w7 ⟨z5', rfl, hcon, ho, hb⟩
 have S9 := Lib.hid (show Sl.Sep W _ [_, Bag.bag (V.rw_OpZ z5')] from Bag.push_bag S8.out hb ho)
 clear S8
 clear hb ho
 have HZz5' := Lib.hid (hcon.trans HC1.out)
 clear hcon
 try dsimp only [V.vv_OpZ]
 go_wp2_with fail
 go_at_call 72
 have HC := Cimpl.out z4' HZz4'.out z5' HZz5'.out _ (Bag.bag_rd S9.out 0 rfl) (Bag.bag_rd S9.out 1 rfl)
 try dsimp only [V.vv_OpZ] at HC
 refine HC.mono ?_
 clear HC
 rintro e w8 ⟨rfl, hb⟩
 have S10 := Lib.hid (S9.out.keep hb)
 clear S9
 clear hb
 go_wp2_with fail
 go_at_call 52
 have HC := V.to_OpZ y0 (by rw [HC0.out]; exact HF0.out) _ (HRY0.out _ S10.out.old)
 try dsimp only [V.vv_OpZ] at HC
 refine HC.mono ?_
 clear HC
 rintro e w9 ⟨z7', rfl, hcon, ho, hb⟩
 have S11 := Lib.hid (show Sl.Sep W _ [Bag.bag (V.rw_OpZ z4'), Bag.bag (V.rw_OpZ z5'), Bag.bag (V.rw_OpZ z7')] from Bag.push_bag S10.out hb ho)
 clear S10
 clear hb ho
 have HZz7' := Lib.hid (hcon.trans HC0.out)
 clear hcon
 try dsimp only [V.vv_OpZ]
 go_wp2_with fail
 go_at_call 55
 have HC := V.eq_OpZ z4' z7' (HZz4'.out.trans HZz7'.out.symm) (by rw [HZz4'.out]; exact (Nat.le_trans HF0.out (by decide : (1048576 : Nat) ≤ 1125899906842624))) _ (Bag.bag_rd S11.out 0 rfl) (Bag.bag_rd S11.out 2 rfl)
 try dsimp only [V.vv_OpZ] at HC
 refine HC.mono ?_
 clear HC
 rintro e w10 ⟨rfl, hb⟩
 have S12 := Lib.hid (S11.out.keep hb)
 clear S11
 clear hb
 have S13 := Lib.hid (show Sl.Sep W _ [Bag.bag (V.rw_OpZ z4'), Bag.bag (V.rw_OpZ z5')] from Bag.take S12.out [0, 1] (by rfl) (by decide))
 clear S12
 go_wp2_with fail
 go_at_call 52
 have HC := V.to_OpZ y1 (by rw [HC1.out]; exact HF1.out) _ (HRY1.out _ S13.out.old)
 try dsimp only [V.vv_OpZ] at HC
 refine HC.mono ?_
 clear HC
 rintro e w11 ⟨z8', rfl, hcon, ho, hb⟩
 have S14 := Lib.hid (show Sl.Sep W _ [_, _, Bag.bag (V.rw_OpZ z8')] from Bag.push_bag S13.out hb ho)
 clear S13
 clear hb ho
 have HZz8' := Lib.hid (hcon.trans HC1.out)
 clear hcon
 try dsimp only [V.vv_OpZ]
 go_wp2_with fail
 go_at_call 55
 have HC := V.eq_OpZ z5' z8' (HZz5'.out.trans HZz8'.out.symm) (by rw [HZz5'.out]; exact (Nat.le_trans HF1.out (by decide : (1048576 : Nat) ≤ 1125899906842624))) _ (Bag.bag_rd S14.out 1 rfl) (Bag.bag_rd S14.out 2 rfl)
 try dsimp only [V.vv_OpZ] at HC
 refine HC.mono ?_
 clear HC
 rintro e w12 ⟨rfl, hb⟩
 have S15 := Lib.hid (S14.out.keep hb)
 clear S14
 clear hb
 have S16 := Lib.hid (show Sl.Sep W _ [Bag.bag (V.rw_OpZ z4'), Bag.bag (V.rw_OpZ z5')] from Bag.take S15.out [0, 1] (by rfl) (by decide))
 clear S15
 go_wp2_with fail
 go_ret
 exact ⟨rfl, S16.out.old⟩

set_option maxRecDepth 100000 in
theorem lifted (os : Os) (started : os.Started) (H : Type) (enc : TypeId × Value → H) :
  ReturnsInHanded {} Try.checked os 12 .any (Rows.fnExactConflictsSpec.pre6 enc Try.prog Try.f12 Rows.fnExactConflictsRow.domain false) (Rows.fnExactConflictsSpec.post enc Try.prog Try.f12 false true false false) := by
 refine returnsInHanded_of_change_sized (C := Try.checked) own started (by kernel_rfl) Try.func12
  (ChangeSpec.witness6 (enc := enc) (C := Try.checked) false ⟨#[], #[.slice none 0 0, .slice none 0 0], []⟩ 8 (by kernel_rfl) (by kernel_rfl) (by kernel_rfl) (by kernel_rfl)) ?_
 intro W base args ds gs before hval0 hW _ hsz0 _
 have hval : ∀ (j : Nat) t v, Try.f12.params[j]? = some t → args[j]? = some v → Value.okWide Try.prog W .any base t v := hval0
 have hW' := hW
 obtain ⟨p, q, hA0, hV, rfl, _, _⟩ := hW
 have hA : DataW.TrodAll enc Try.prog W 0 (fun _ => true) true Try.f12.params.toList args.toList ds p := hA0
 obtain ⟨rfl, rfl⟩ := trodVars_none hV
 have hlt : ∀ x ∈ p, x.block < W.heap.size := fun x hx => hW'.lt x (by simpa using hx)
 simp only [List.append_nil] at hW'
 have hw := walk H enc W base args ds p hval hA hlt hsz0
 have hA1 := hA
 clear hA0 hval0 hsz0 hval hlt
 rw [Try.params12] at hA
 obtain ⟨v0, vs0, d0, ds0, p0, q0, e0, rfl, rfl, h0, hr0⟩ := trodAll_cons hA
 obtain ⟨v1, vs1, d1, ds1, p1, q1, e1, rfl, rfl, h1, hr1⟩ := trodAll_cons hr0
 obtain ⟨e2, rfl, rfl⟩ := trodAll_nil hr1
 refine hw.mono fun e W' ⟨he, hb⟩ => ?_
 subst he
 exact ⟨_, rfl, Frame.law_post (tb := 4) rfl hW' hA1 rfl rfl rfl laidOut (by kernel_rfl) (by kernel_rfl) Try.underlying4 hb⟩

theorem closedFacts : joinedFacts Try.pinned.checked.prog 12 Try.f12 Rows.fnExactConflictsSpec Rows.fnExactConflictsRow = true := by
 have h1 : Try.pinned.checked.prog.mayEnter = true := Closed.mayIn
 have h2 : (Rows.fnExactConflictsRow.lifted == Try.pinned.checked.prog.liftsFinal) = true := by
  rw [show Try.pinned.checked.prog.liftsFinal = false from Closed.liftsNone]; rfl
 have h3 : (Try.pinned.checked.prog.make == some Rows.fnExactConflictsRow.make) = true := by
  rw [show Try.pinned.checked.prog.make = some .cut from Closed.makeIs]; rfl
 unfold joinedFacts
 rw [h1, h2, h3]
 change _ = true
 kernel_rfl
theorem holds : Rows.FnExactConflictsSaid :=
 OpenClaim.holds_of_wide 12 Try.f12 rfl rfl rfl rfl rfl rfl rfl ⟨rfl, rfl, rfl, rfl, rfl⟩ rfl rfl rfl rfl rfl (by kernel_rfl) Try.func12 closedFacts
  (of_decide_eq_true (by kernel_rfl)) (by unfold Func.isWrapper; first | (rw [if_pos (by decide +kernel)]; kernel_rfl) | (rw [if_neg (by decide +kernel)]; exact ⟨rfl, rfl⟩))
  (fun os started H enc _ => lifted os started H enc)

#print axioms holds
end Go.Proofs.Ytojcdmgcbgpdmaa.lawFnExactConflicts
