import Derived.Test.YtojcdmgcbgpdmaaFnExactEncodeOpsP2
import Derived.Test.YtojcdmgcbgpdmaaClosed
import Derived.JoinedOf
import Derived.SizedLaws
import Derived.LaidLaws
import Derived.ShutString
import Derived.Stop.LaidErr
import Derived.Lib.LaidTab
import Derived.Deep.RegionHeld3
import Derived.Deep.DeepCutAuto
namespace Go.Proofs.Ytojcdmgcbgpdmaa.lawFnExactEncodeOps
open Go.ChangeShapes Go.WideShapes Go.ChangeAt Go.RowKit
open Go.ChangeMaps (open_string shut_string)
theorem own : ownKnob Try.prog.godebug = none := by kernel_rfl
theorem laidOut : laidOutB Try.prog = true := by kernel_rfl
open Mem Sl Bag
open Go.Proofs.Ytojcdmgcbgpdmaa.L5 (cellsF)
set_option maxRecDepth 100000 in
set_option maxHeartbeats 8000000 in
theorem walk (H : Type) (enc : TypeId × Value → H) (W : World) (base : Nat) (args : Array Value) (ds : List (DataW H)) (p : List MemPlace)
  (hval : ∀ (j : Nat) t v, Try.f10.params[j]? = some t → args[j]? = some v → Value.okWide Try.prog W .any base t v)
  (hA : DataW.TrodAll enc Try.prog W 0 (fun _ => true) true Try.f10.params.toList args.toList ds p)
  (hlt : ∀ x ∈ p, x.block < W.heap.size)
  (hsz : (DataW.weightsEach Try.prog (Try.f10.params.toList ++ Rows.fnExactEncodeOpsSpec.plain.varTypes Try.prog) (ds ++ [])).all (· ≤ reachBytes) = true) :
  Calls Try.prog 10 args W fun e w' => e = .returned (.bool true) ∧ Below W.heap.size W w' := by
 rw [Try.params10] at hA hval hsz
 obtain ⟨v0, vs0, d0, ds0, p0, q0, e0, rfl, rfl, h0, g0⟩ := trodAll_cons hA
 obtain ⟨ez, rfl, rfl⟩ := trodAll_nil g0
 subst ez
 obtain rfl : args = #[v0] := Array.toList_inj.1 e0
 clear e0
 obtain ⟨y0, rfl, hR0, hW0⟩ := V.open_OpZ (hval 0 78 v0 rfl rfl) h0 (fun x hx => hlt x (by simp [hx]))
 clear hval hA hlt hsz h0
 have HSZ0 := Lib.hid (fun (q : Int) (h0 : -1 ≤ q) (h1 : q ≤ 1048576) (w' : World) (h : Below W.heap.size W w') => (V.sz_OpZ y0 q hW0 h0 h1 w' ((hR0.below h).more h.size)).mono (R' := fun e w2 => ∃ u : Int, e = .returned (.int .i64 u) ∧ (-1 ≤ u ∧ u ≤ 1048576 ∧ (0 ≤ u → V.wt_OpZ (V.co_OpZ y0) ≤ 1048576)) ∧ Below w'.heap.size w' w2) fun e w2 ⟨he, hb⟩ => by obtain ⟨u, hu, hq⟩ := (show ∃ u : Int, V.lft q (V.wt_OpZ (V.co_OpZ y0)) = u ∧ (-1 ≤ u ∧ u ≤ 1048576 ∧ (0 ≤ u → V.wt_OpZ (V.co_OpZ y0) ≤ 1048576)) from ⟨_, rfl, (V.lft_range _ h1).1, (V.lft_range _ h1).2, fun h3 => (V.lft_small (by omega) h1).1⟩); exact ⟨u, by rw [he, hu], hq, hb⟩)
 have HRY0 := Lib.hid (fun w' (h : Below W.heap.size W w') => ((hR0.below h).more h.size : RowsRd w' w'.heap.size (V.rw_OpZ y0)))
 clear hR0 hW0
 try dsimp only [V.vv_OpZ, V.vv_ByteZ] at HSZ0
 try dsimp only [V.vv_OpZ, V.vv_ByteZ]
 have S1 := Lib.hid (show Sl.Sep W W [] from Sl.Sep.start W)
 go_enter Try.func10, Try.ntmps10
 go_upto_region 1 with fail
 go_wp2_with fail
 go_at_call 50
 have HC := HSZ0.out 1048576 (by omega) (by omega) _ S1.out.old
 try dsimp only [V.vv_OpZ, V.vv_ByteZ] at HC
 refine HC.mono ?_
 clear HC
 rintro e w1 ⟨u0, rfl, ro, hb⟩
 have S2 := Lib.hid (S1.out.keep hb)
 clear S1
 clear hb
 have HRO0 := Lib.hid ro
 have X0 : -1 ≤ u0 ∧ u0 ≤ 1048576 := ⟨ro.1, ro.2.1⟩
 clear ro
 by_cases neg0 : u0 < 0
 ·
  skip
  go_wp2_with fail
  go_ret
  exact ⟨rfl, S2.out.old⟩
 have HF0 := Lib.hid (HRO0.out.2.2 (by omega))
 obtain ⟨C0, hC0⟩ : ∃ C, V.co_OpZ y0 = C := ⟨_, rfl⟩
 rw [hC0] at HF0
 have HC0 := Lib.hid hC0
 clear hC0
 obtain ⟨r0', hr0'⟩ : ∃ r : List Int, L9.encL C0 = r := ⟨_, rfl⟩
 have Cspec : ∀ (z0 : V.Y_OpZ), V.co_OpZ z0 = C0 → ∀ w' : World, RowsRd w' w'.heap.size (V.rw_OpZ z0) → Calls Try.prog 59 #[.slice z0.a z0.xs.length z0.c] w' fun e w'' => ∃ (z0 : V.Y_ByteZ), e = .returned (.slice z0.a z0.xs.length z0.c) ∧ V.co_ByteZ z0 = r0' ∧ BagOwn w'' w'.heap.size ((V.rw_ByteZ z0)) ∧ Below w'.heap.size w' w'' := by
  intro z0 hz0 w' hr0
  have hf0 : V.wt_OpZ (V.co_OpZ z0) ≤ 1048576 := by rw [hz0]; exact HF0.out
  have h := (show Calls Try.prog 59 #[.slice z0.a z0.xs.length z0.c] w' (Sl.Gave w' w'.heap.size 5 .u8 (L9.encL (V.co_OpZ z0))) from L9.specEncodeOps_any z0.a z0.c z0.xs (L9.fitZ hf0).1 (L9.fitZ hf0).2 w' (V.rd_OpZ hr0) (V.rx_OpZ hr0))
  rw [hz0, hr0'] at h
  exact h.mono (fun e w ⟨a, c, he, ho, hb⟩ => ⟨⟨a, c, _⟩, he, rfl, Bag.BagOwn.one ho, hb⟩)
 replace Cspec := Lib.hid Cspec
 have Cimpl : ∀ (z0 : V.Y_OpZ), V.co_OpZ z0 = C0 → ∀ w' : World, RowsRd w' w'.heap.size (V.rw_OpZ z0) → Calls Try.prog 60 #[.slice z0.a z0.xs.length z0.c] w' fun e w'' => ∃ (z0 : V.Y_ByteZ), e = .returned (.slice z0.a z0.xs.length z0.c) ∧ V.co_ByteZ z0 = r0' ∧ BagOwn w'' w'.heap.size ((V.rw_ByteZ z0)) ∧ Below w'.heap.size w' w'' := by
  intro z0 hz0 w' hr0
  have hf0 : V.wt_OpZ (V.co_OpZ z0) ≤ 1048576 := by rw [hz0]; exact HF0.out
  have h := (show Calls Try.prog 60 #[.slice z0.a z0.xs.length z0.c] w' (Sl.Gave w' w'.heap.size 5 .u8 (L9.encL (V.co_OpZ z0))) from L9.encodeOps_any z0.a z0.c z0.xs (L9.fitZ hf0).1 (L9.fitZ hf0).2 w' (V.rd_OpZ hr0) (V.rx_OpZ hr0))
  rw [hz0, hr0'] at h
  exact h.mono (fun e w ⟨a, c, he, ho, hb⟩ => ⟨⟨a, c, _⟩, he, rfl, Bag.BagOwn.one ho, hb⟩)
 replace Cimpl := Lib.hid Cimpl
 have HFR0 := Lib.hid (show V.wt_ByteZ r0' ≤ 1099511627776 from by rw [← hr0']; exact (by have h := L9.encL_len C0; show (L9.encL C0).length ≤ _; omega))
 clear hr0'
 go_wp2_with fail
 go_at_call 52
 have HC := V.to_OpZ y0 (by rw [HC0.out]; exact HF0.out) _ (HRY0.out _ S2.out.old)
 try dsimp only [V.vv_OpZ, V.vv_ByteZ] at HC
 refine HC.mono ?_
 clear HC
 rintro e w2 ⟨z1', rfl, hcon, ho, hb⟩
 have S3 := Lib.hid (show Sl.Sep W _ [Bag.bag (V.rw_OpZ z1')] from Bag.push_bag S2.out hb ho)
 clear S2
 clear hb ho
 have HZz1' := Lib.hid (hcon.trans HC0.out)
 clear hcon
 try dsimp only [V.vv_OpZ, V.vv_ByteZ]
 go_wp2_with fail
 go_at_call 59
 have HC := Cspec.out z1' HZz1'.out _ (Bag.bag_rd S3.out 0 rfl)
 try dsimp only [V.vv_OpZ, V.vv_ByteZ] at HC
 refine HC.mono ?_
 clear HC
 rintro e w3 ⟨z2r0', rfl, hcon0, ho, hb⟩
 have S4 := Lib.hid (show Sl.Sep W _ [_, Bag.bag (V.rw_ByteZ z2r0')] from Bag.push_bag S3.out hb ho)
 clear S3
 clear hb ho
 have HZz2r0' := Lib.hid hcon0
 clear hcon0
 have S5 := Lib.hid (show Sl.Sep W _ [_] from Bag.take S4.out [1] (by rfl) (by decide))
 clear S4
 go_wp2_with fail
 go_at_call 52
 have HC := V.to_OpZ y0 (by rw [HC0.out]; exact HF0.out) _ (HRY0.out _ S5.out.old)
 try dsimp only [V.vv_OpZ, V.vv_ByteZ] at HC
 refine HC.mono ?_
 clear HC
 rintro e w4 ⟨z3', rfl, hcon, ho, hb⟩
 have S6 := Lib.hid (show Sl.Sep W _ [_, Bag.bag (V.rw_OpZ z3')] from Bag.push_bag S5.out hb ho)
 clear S5
 clear hb ho
 have HZz3' := Lib.hid (hcon.trans HC0.out)
 clear hcon
 try dsimp only [V.vv_OpZ, V.vv_ByteZ]
 go_wp2_with fail
 go_at_call 60
 have HC := Cimpl.out z3' HZz3'.out _ (Bag.bag_rd S6.out 1 rfl)
 try dsimp only [V.vv_OpZ, V.vv_ByteZ] at HC
 refine HC.mono ?_
 clear HC
 rintro e w5 ⟨z4r0', rfl, hcon0, ho, hb⟩
 have S7 := Lib.hid (show Sl.Sep W _ [_, _, Bag.bag (V.rw_ByteZ z4r0')] from Bag.push_bag S6.out hb ho)
 clear S6
 clear hb ho
 have HZz4r0' := Lib.hid hcon0
 clear hcon0
 go_wp2_with fail
 go_at_call 61
 have HC := V.eq_ByteZ z4r0' z2r0' (HZz4r0'.out.trans HZz2r0'.out.symm) (by rw [HZz4r0'.out]; exact HFR0.out) _ (Bag.bag_rd S7.out 2 rfl) (Bag.bag_rd S7.out 0 rfl)
 try dsimp only [V.vv_OpZ, V.vv_ByteZ] at HC
 refine HC.mono ?_
 clear HC
 rintro e w6 ⟨rfl, hb⟩
 have S8 := Lib.hid (S7.out.keep hb)
 clear S7
 clear hb
 go_wp2_with fail
 go_at_call 52
 have HC := V.to_OpZ y0 (by rw [HC0.out]; exact HF0.out) _ (HRY0.out _ S8.out.old)
 try dsimp only [V.vv_OpZ, V.vv_ByteZ] at HC
 refine HC.mono ?_
 clear HC
 rintro e w7 ⟨z5', rfl, hcon, ho, hb⟩
 have S9 := Lib.hid (show Sl.Sep W _ [Bag.bag (V.rw_ByteZ z2r0'), Bag.bag (V.rw_OpZ z3'), Bag.bag (V.rw_ByteZ z4r0'), Bag.bag (V.rw_OpZ z5')] from Bag.push_bag S8.out hb ho)
 clear S8
 clear hb ho
 have HZz5' := Lib.hid (hcon.trans HC0.out)
 clear hcon
 try dsimp only [V.vv_OpZ, V.vv_ByteZ]
 go_wp2_with fail
 go_at_call 55
 have HC := V.eq_OpZ z3' z5' (HZz3'.out.trans HZz5'.out.symm) (by rw [HZz3'.out]; exact (Nat.le_trans HF0.out (by decide : (1048576 : Nat) ≤ 1125899906842624))) _ (Bag.bag_rd S9.out 1 rfl) (Bag.bag_rd S9.out 3 rfl)
 try dsimp only [V.vv_OpZ, V.vv_ByteZ] at HC
 refine HC.mono ?_
 clear HC
 rintro e w8 ⟨rfl, hb⟩
 have S10 := Lib.hid (S9.out.keep hb)
 clear S9
 clear hb
 have S11 := Lib.hid (show Sl.Sep W _ [Bag.bag (V.rw_ByteZ z2r0'), Bag.bag (V.rw_OpZ z3'), Bag.bag (V.rw_ByteZ z4r0')] from Bag.take S10.out [0, 1, 2] (by rfl) (by decide))
 clear S10
 obtain ⟨Ez3', hE⟩ : ∃ E, (1 : Int) + (V.ct_OpZ z3' : Int) = E := ⟨_, rfl⟩
 have hEb := V.ctS_OpZ z3'
 have hEc : V.wt_OpZ (V.co_OpZ z3') ≤ 1125899906842624 := (by rw [HZz3'.out]; exact (Nat.le_trans HF0.out (by decide : (1048576 : Nat) ≤ 1125899906842624)))
 have hEb0 : 1 ≤ Ez3' := by omega
 have hEb1 : Ez3' ≤ 1 + 72057594037928000 := by omega
 clear hEc
 have hEb2 : 0 < Ez3' := by omega
 have hEb3 : ¬ Ez3' < 0 := by omega
 have HEz3' := Lib.hid hE
 clear hE hEb
 go_wp2_with fail
 go_at_call 56
 have HC := V.mark_OpZ S11.out 1 (z := z3') rfl 1 (by rw [HZz3'.out]; exact (Nat.le_trans HF0.out (by decide : (1048576 : Nat) ≤ 1125899906842624))) (by omega) (by rw [HEz3'.out]; omega)
 try dsimp only [V.vv_OpZ, V.vv_ByteZ] at HC
 rw [HEz3'.out] at HC
 refine HC.mono ?_
 clear HC
 rintro e w9 ⟨rfl, hS⟩
 have S12 := Lib.hid (show Sl.Sep W _ [_, Bag.bag (V.rw_OpZ (V.md_OpZ 1 z3')), _] from hS)
 clear S11
 clear hS
 go_wp2_with fail
 go_at_call 61
 have HC := V.eq_ByteZ z4r0' z2r0' (HZz4r0'.out.trans HZz2r0'.out.symm) (by rw [HZz4r0'.out]; exact HFR0.out) _ (Bag.bag_rd S12.out 2 rfl) (Bag.bag_rd S12.out 0 rfl)
 try dsimp only [V.vv_OpZ, V.vv_ByteZ] at HC
 refine HC.mono ?_
 clear HC
 rintro e w10 ⟨rfl, hb⟩
 have S13 := Lib.hid (S12.out.keep hb)
 clear S12
 clear hb
 obtain ⟨Ez4r0', hE⟩ : ∃ E, (1 : Int) + (V.ct_ByteZ z4r0' : Int) = E := ⟨_, rfl⟩
 have hEb := V.ctS_ByteZ z4r0'
 have hEc : V.wt_ByteZ (V.co_ByteZ z4r0') ≤ 1099511627776 := (by rw [HZz4r0'.out]; exact HFR0.out)
 have hEb0 : 1 ≤ Ez4r0' := by omega
 have hEb1 : Ez4r0' ≤ 1 + 72057594037928000 := by omega
 clear hEc
 have hEb2 : 0 < Ez4r0' := by omega
 have hEb3 : ¬ Ez4r0' < 0 := by omega
 have HEz4r0' := Lib.hid hE
 clear hE hEb
 go_wp2_with fail
 go_at_call 62
 have HC := V.mark_ByteZ S13.out 2 (z := z4r0') rfl 1 (by rw [HZz4r0'.out]; exact HFR0.out) (by omega) (by rw [HEz4r0'.out]; omega)
 try dsimp only [V.vv_OpZ, V.vv_ByteZ] at HC
 rw [HEz4r0'.out] at HC
 refine HC.mono ?_
 clear HC
 rintro e w11 ⟨rfl, hS⟩
 have S14 := Lib.hid (show Sl.Sep W _ [_, _, Bag.bag (V.rw_ByteZ (V.md_ByteZ 1 z4r0'))] from hS)
 clear S13
 clear hS
 go_wp2_with fail
 go_at_call 63
 have HC := V.held_ByteZ z4r0' 1 (by rw [HZz4r0'.out]; exact HFR0.out) (by omega) (by rw [HEz4r0'.out]; omega) _ (Bag.bag_rd S14.out 2 rfl)
 try dsimp only [V.vv_OpZ, V.vv_ByteZ] at HC
 rw [HEz4r0'.out] at HC
 refine HC.mono ?_
 clear HC
 rintro e w12 ⟨rfl, hb⟩
 have S15 := Lib.hid (S14.out.keep hb)
 clear S14
 clear hb
 go_wp2_with fail
 go_at_call 52
 have HC := V.to_OpZ y0 (by rw [HC0.out]; exact HF0.out) _ (HRY0.out _ S15.out.old)
 try dsimp only [V.vv_OpZ, V.vv_ByteZ] at HC
 refine HC.mono ?_
 clear HC
 rintro e w13 ⟨z6', rfl, hcon, ho, hb⟩
 have S16 := Lib.hid (show Sl.Sep W _ [Bag.bag (V.rw_ByteZ z2r0'), Bag.bag (V.rw_OpZ (V.md_OpZ 1 z3')), Bag.bag (V.rw_ByteZ (V.md_ByteZ 1 z4r0')), Bag.bag (V.rw_OpZ z6')] from Bag.push_bag S15.out hb ho)
 clear S15
 clear hb ho
 have HZz6' := Lib.hid (hcon.trans HC0.out)
 clear hcon
 try dsimp only [V.vv_OpZ, V.vv_ByteZ]
 go_wp2_with fail
 go_at_call 60
 have HC := Cimpl.out z6' HZz6'.out _ (Bag.bag_rd S16.out 3 rfl)
 try dsimp only [V.vv_OpZ, V.vv_ByteZ] at HC
 refine HC.mono ?_
 clear HC
 rintro e w14 ⟨z7r0', rfl, hcon0, ho, hb⟩
 have S17 := Lib.hid (show Sl.Sep W _ [_, _, _, _, Bag.bag (V.rw_ByteZ z7r0')] from Bag.push_bag S16.out hb ho)
 clear S16
 clear hb ho
 have HZz7r0' := Lib.hid hcon0
 clear hcon0
 have S18 := Lib.hid (show Sl.Sep W _ [_, _, _, _] from Bag.take S17.out [0, 1, 2, 4] (by rfl) (by decide))
 clear S17
 go_wp2_with fail
 go_at_call 61
 have HC := V.eq_ByteZ z7r0' z2r0' (HZz7r0'.out.trans HZz2r0'.out.symm) (by rw [HZz7r0'.out]; exact HFR0.out) _ (Bag.bag_rd S18.out 3 rfl) (Bag.bag_rd S18.out 0 rfl)
 try dsimp only [V.vv_OpZ, V.vv_ByteZ] at HC
 refine HC.mono ?_
 clear HC
 rintro e w15 ⟨rfl, hb⟩
 have S19 := Lib.hid (S18.out.keep hb)
 clear S18
 clear hb
 go_wp2_with fail
 go_at_call 63
 have HC := V.held_ByteZ z4r0' 1 (by rw [HZz4r0'.out]; exact HFR0.out) (by omega) (by rw [HEz4r0'.out]; omega) _ (Bag.bag_rd S19.out 2 rfl)
 try dsimp only [V.vv_OpZ, V.vv_ByteZ] at HC
 rw [HEz4r0'.out] at HC
 refine HC.mono ?_
 clear HC
 rintro e w16 ⟨rfl, hb⟩
 have S20 := Lib.hid (S19.out.keep hb)
 clear S19
 clear hb
 go_wp2_with fail
 go_ret
 exact ⟨rfl, S20.out.old⟩

set_option maxRecDepth 100000 in
theorem lifted (os : Os) (started : os.Started) (H : Type) (enc : TypeId × Value → H) :
  ReturnsInHanded {} Try.checked os 10 .any (Rows.fnExactEncodeOpsSpec.pre6 enc Try.prog Try.f10 Rows.fnExactEncodeOpsRow.domain false) (Rows.fnExactEncodeOpsSpec.post enc Try.prog Try.f10 false true false false) := by
 refine returnsInHanded_of_change_sized (C := Try.checked) own started (by kernel_rfl) Try.func10
  (ChangeSpec.witness6 (enc := enc) (C := Try.checked) false ⟨#[], #[.slice none 0 0], []⟩ 8 (by kernel_rfl) (by kernel_rfl) (by kernel_rfl) (by kernel_rfl)) ?_
 intro W base args ds gs before hval0 hW _ hsz0 _
 have hval : ∀ (j : Nat) t v, Try.f10.params[j]? = some t → args[j]? = some v → Value.okWide Try.prog W .any base t v := hval0
 have hW' := hW
 obtain ⟨p, q, hA0, hV, rfl, _, _⟩ := hW
 have hA : DataW.TrodAll enc Try.prog W 0 (fun _ => true) true Try.f10.params.toList args.toList ds p := hA0
 obtain ⟨rfl, rfl⟩ := trodVars_none hV
 have hlt : ∀ x ∈ p, x.block < W.heap.size := fun x hx => hW'.lt x (by simpa using hx)
 simp only [List.append_nil] at hW'
 have hw := walk H enc W base args ds p hval hA hlt hsz0
 have hA1 := hA
 clear hA0 hval0 hsz0 hval hlt
 rw [Try.params10] at hA
 obtain ⟨v0, vs0, d0, ds0, p0, q0, e0, rfl, rfl, h0, hr0⟩ := trodAll_cons hA
 obtain ⟨e1, rfl, rfl⟩ := trodAll_nil hr0
 refine hw.mono fun e W' ⟨he, hb⟩ => ?_
 subst he
 exact ⟨_, rfl, Frame.law_post (tb := 4) rfl hW' hA1 rfl rfl rfl laidOut (by kernel_rfl) (by kernel_rfl) Try.underlying4 hb⟩

theorem closedFacts : joinedFacts Try.pinned.checked.prog 10 Try.f10 Rows.fnExactEncodeOpsSpec Rows.fnExactEncodeOpsRow = true := by
 have h1 : Try.pinned.checked.prog.mayEnter = true := Closed.mayIn
 have h2 : (Rows.fnExactEncodeOpsRow.lifted == Try.pinned.checked.prog.liftsFinal) = true := by
  rw [show Try.pinned.checked.prog.liftsFinal = false from Closed.liftsNone]; rfl
 have h3 : (Try.pinned.checked.prog.make == some Rows.fnExactEncodeOpsRow.make) = true := by
  rw [show Try.pinned.checked.prog.make = some .cut from Closed.makeIs]; rfl
 unfold joinedFacts
 rw [h1, h2, h3]
 change _ = true
 kernel_rfl
theorem holds : Rows.FnExactEncodeOpsSaid :=
 OpenClaim.holds_of_wide 10 Try.f10 rfl rfl rfl rfl rfl rfl rfl ⟨rfl, rfl, rfl, rfl, rfl⟩ rfl rfl rfl rfl rfl (by kernel_rfl) Try.func10 closedFacts
  (of_decide_eq_true (by kernel_rfl)) (by unfold Func.isWrapper; first | (rw [if_pos (by decide +kernel)]; kernel_rfl) | (rw [if_neg (by decide +kernel)]; exact ⟨rfl, rfl⟩))
  (fun os started H enc _ => lifted os started H enc)

#print axioms holds
end Go.Proofs.Ytojcdmgcbgpdmaa.lawFnExactEncodeOps
