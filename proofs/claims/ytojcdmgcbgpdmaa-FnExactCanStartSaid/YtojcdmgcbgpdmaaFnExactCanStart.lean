import Derived.Test.YtojcdmgcbgpdmaaFnExactCanStartP2
import Derived.Test.YtojcdmgcbgpdmaaClosed
import Derived.JoinedOf
import Derived.SizedLaws
import Derived.LaidLaws
import Derived.ShutString
import Derived.Stop.LaidErr
import Derived.Lib.LaidTab
import Derived.Deep.RegionHeld3
import Derived.Deep.DeepCutAuto
set_option linter.unusedSimpArgs false
namespace Go.Proofs.Ytojcdmgcbgpdmaa.lawFnExactCanStart
open Go.ChangeShapes Go.WideShapes Go.ChangeAt Go.RowKit
open Go.ChangeMaps (open_string shut_string)
theorem own : ownKnob Try.prog.godebug = none := by kernel_rfl
theorem laidOut : laidOutB Try.prog = true := by kernel_rfl
open Mem Sl Bag
open Go.Proofs.Ytojcdmgcbgpdmaa.L5 (cellsF)
set_option maxRecDepth 100000 in
set_option maxHeartbeats 8000000 in
theorem walk (H : Type) (enc : TypeId × Value → H) (W : World) (base : Nat) (args : Array Value) (ds : List (DataW H)) (p : List MemPlace)
  (hval : ∀ (j : Nat) t v, Try.f13.params[j]? = some t → args[j]? = some v → Value.okWide Try.prog W .any base t v)
  (hA : DataW.TrodAll enc Try.prog W 0 (fun _ => true) true Try.f13.params.toList args.toList ds p)
  (hlt : ∀ x ∈ p, x.block < W.heap.size)
  (hsz : (DataW.weightsEach Try.prog (Try.f13.params.toList ++ Rows.fnExactCanStartSpec.plain.varTypes Try.prog) (ds ++ [])).all (· ≤ reachBytes) = true) :
  Calls Try.prog 13 args W fun e w' => e = .returned (.bool true) ∧ Below W.heap.size W w' := by
 rw [Try.params13] at hA hval hsz
 obtain ⟨v0, vs0, d0, ds0, p0, q0, e0, rfl, rfl, h0, g0⟩ := trodAll_cons hA
 obtain ⟨v1, vs1, d1, ds1, p1, q1, e1, rfl, rfl, h1, g1⟩ := trodAll_cons g0
 obtain ⟨ez, rfl, rfl⟩ := trodAll_nil g1
 subst ez
 subst e1
 obtain rfl : args = #[v0, v1] := Array.toList_inj.1 e0
 clear e0
 obtain ⟨y0, rfl, hR0, hW0⟩ := V.open_TxQueue (hval 0 94 v0 rfl rfl) h0 (fun x hx => hlt x (by simp [hx]))
 obtain ⟨n1, rfl, -, -, hW1⟩ := open_int Try.underlying3 (hval 1 3 v1 rfl rfl) h1
 have I1 := Law.wf_i64 hW1
 clear hW1
 clear hval hA hlt hsz h0 h1
 have HSZ0 := Lib.hid (fun (q : Int) (h0 : -1 ≤ q) (h1 : q ≤ 1048576) (w' : World) (h : Below W.heap.size W w') => (V.sz_TxQueue y0 q hW0 h0 h1 w' ((hR0.below h).more h.size)).mono (R' := fun e w2 => ∃ u : Int, e = .returned (.int .i64 u) ∧ (-1 ≤ u ∧ u ≤ 1048576 ∧ (0 ≤ u → V.wt_TxQueue (V.co_TxQueue y0) ≤ 1048576)) ∧ Below w'.heap.size w' w2) fun e w2 ⟨he, hb⟩ => by obtain ⟨u, hu, hq⟩ := (show ∃ u : Int, V.lft q (V.wt_TxQueue (V.co_TxQueue y0)) = u ∧ (-1 ≤ u ∧ u ≤ 1048576 ∧ (0 ≤ u → V.wt_TxQueue (V.co_TxQueue y0) ≤ 1048576)) from ⟨_, rfl, (V.lft_range _ h1).1, (V.lft_range _ h1).2, fun h3 => (V.lft_small (by omega) h1).1⟩); exact ⟨u, by rw [he, hu], hq, hb⟩)
 have HRY0 := Lib.hid (fun w' (h : Below W.heap.size W w') => ((hR0.below h).more h.size : RowsRd w' w'.heap.size (V.rw_TxQueue y0)))
 clear hR0 hW0
 try dsimp only [V.vv_TxQueue] at HSZ0
 try dsimp only [V.vv_TxQueue]
 have S1 := Lib.hid (show Sl.Sep W _ [_] from L4.push_box (Sl.Sep.start W) 94 #[.slice y0.f_Txs_a y0.f_Txs.length y0.f_Txs_c] (W.heap.size) (by simp))
 obtain ⟨wa, hwa⟩ : ∃ w_, w_ = (W.alloc (.cells #[.slice y0.f_Txs_a y0.f_Txs.length y0.f_Txs_c] 94)) := ⟨_, rfl⟩
 rw [← hwa] at S1
 go_enter Try.func13, Try.ntmps13
 go_upto_region 1 with fail
 rw [← hwa]
 clear hwa
 have f0 := Bag.cs1 S1.out 0 rfl
 go_wp2_with fail
 go_at_call 64
 have HC := HSZ0.out 1048576 (by omega) (by omega) _ S1.out.old
 try dsimp only [V.vv_TxQueue] at HC
 refine HC.mono ?_
 clear HC
 rintro e w1 ⟨u0, rfl, ro, hb⟩
 clear f0
 have S2 := Lib.hid (S1.out.keep hb)
 clear S1
 clear hb
 have HRO0 := Lib.hid ro
 have X0 : -1 ≤ u0 ∧ u0 ≤ 1048576 := ⟨ro.1, ro.2.1⟩
 clear ro
 by_cases neg0 : u0 < 0
 ·
  skip
  go_wp2_with fail
  go_ret
  exact ⟨rfl, S2.out.old⟩
 have HF0 := Lib.hid (HRO0.out.2.2 (by omega))
 obtain ⟨C0, hC0⟩ : ∃ C, V.co_TxQueue y0 = C := ⟨_, rfl⟩
 rw [hC0] at HF0
 have HC0 := Lib.hid hC0
 clear hC0
 obtain ⟨r0', hr0'⟩ : ∃ r : Bool, L10.csQ C0.f_Txs n1 = r := ⟨_, rfl⟩
 have Cspec : ∀ (z0 : V.Y_TxQueue), V.co_TxQueue z0 = C0 → ∀ w' : World, RowsRd w' w'.heap.size (V.rw_TxQueue z0) → Calls Try.prog 73 #[.agg #[.slice z0.f_Txs_a z0.f_Txs.length z0.f_Txs_c], .int .i64 n1] w' fun e w'' => e = .returned (.bool r0') ∧ Below w'.heap.size w' w'' := by
  intro z0 hz0 w' hr0
  have hf0 : V.wt_TxQueue (V.co_TxQueue z0) ≤ 1048576 := by rw [hz0]; exact HF0.out
  have h := (show Calls Try.prog 73 #[V.vv_TxQueue z0, .int .i64 n1] w' (fun e w'' => e = .returned (.bool (L10.csQ (V.co_TxQueue z0).f_Txs n1)) ∧ Below w'.heap.size w' w'') from L10.specCanStart_any z0.f_Txs_a z0.f_Txs_c z0.f_Txs (L10.fitQ_wt hf0).1 (L10.fitQ_wt hf0).2 n1 w' (L10.rdQ hr0) (L10.rdQx hr0))
  rw [hz0, hr0'] at h
  exact h
 replace Cspec := Lib.hid Cspec
 have Cimpl : ∀ (z0 : V.Y_TxQueue), V.co_TxQueue z0 = C0 → ∀ w' : World, RowsRd w' w'.heap.size (V.rw_TxQueue z0) → Calls Try.prog 74 #[.agg #[.slice z0.f_Txs_a z0.f_Txs.length z0.f_Txs_c], .int .i64 n1] w' fun e w'' => e = .returned (.bool r0') ∧ Below w'.heap.size w' w'' := by
  intro z0 hz0 w' hr0
  have hf0 : V.wt_TxQueue (V.co_TxQueue z0) ≤ 1048576 := by rw [hz0]; exact HF0.out
  have h := (show Calls Try.prog 74 #[V.vv_TxQueue z0, .int .i64 n1] w' (fun e w'' => e = .returned (.bool (L10.csQ (V.co_TxQueue z0).f_Txs n1)) ∧ Below w'.heap.size w' w'') from L10.canStart_any z0.f_Txs_a z0.f_Txs_c z0.f_Txs (L10.fitQ_wt hf0).1 (L10.fitQ_wt hf0).2 (V.rd_head hr0).cap n1 w' (L10.rdQ hr0) (L10.rdQx hr0))
  rw [hz0, hr0'] at h
  exact h
 replace Cimpl := Lib.hid Cimpl
 clear hr0'
 have f0 := Bag.cs1 S2.out 0 rfl
 go_wp2_with fail
 go_at_call 66
 have HC := V.to_TxQueue y0 (by rw [HC0.out]; exact HF0.out) _ (HRY0.out _ S2.out.old)
 try dsimp only [V.vv_TxQueue] at HC
 refine HC.mono ?_
 clear HC
 rintro e w2 ⟨z1', rfl, hcon, ho, hb⟩
 clear f0
 have S3 := Lib.hid (show Sl.Sep W _ [L4.boxR W.heap.size 94 (V.cs_TxQueue y0), Bag.bag (V.rw_TxQueue z1')] from Bag.push_bag S2.out hb ho)
 clear S2
 clear hb ho
 have HZz1' := Lib.hid (hcon.trans HC0.out)
 clear hcon
 try dsimp only [V.vv_TxQueue]
 go_wp2_with fail
 go_at_call 73
 have HC := Cspec.out z1' HZz1'.out _ (Bag.bag_rd S3.out 1 rfl)
 try dsimp only [V.vv_TxQueue] at HC
 refine HC.mono ?_
 clear HC
 rintro e w3 ⟨rfl, hb⟩
 have S4 := Lib.hid (S3.out.keep hb)
 clear S3
 clear hb
 have S5 := Lib.hid (show Sl.Sep W _ [L4.boxR W.heap.size 94 (V.cs_TxQueue y0)] from Bag.take S4.out [0] (by rfl) (by decide))
 clear S4
 have f0 := Bag.cs1 S5.out 0 rfl
 go_wp2_with fail
 go_at_call 66
 have HC := V.to_TxQueue y0 (by rw [HC0.out]; exact HF0.out) _ (HRY0.out _ S5.out.old)
 try dsimp only [V.vv_TxQueue] at HC
 refine HC.mono ?_
 clear HC
 rintro e w4 ⟨z3', rfl, hcon, ho, hb⟩
 clear f0
 have S6 := Lib.hid (show Sl.Sep W _ [_, Bag.bag (V.rw_TxQueue z3')] from Bag.push_bag S5.out hb ho)
 clear S5
 clear hb ho
 have HZz3' := Lib.hid (hcon.trans HC0.out)
 clear hcon
 try dsimp only [V.vv_TxQueue]
 go_upto_region 7 with fail
 have S7 := Lib.hid (show Sl.Sep W _ [_, _, _] from L4.push_box S6.out 98 #[.slice z3'.f_Txs_a z3'.f_Txs.length z3'.f_Txs_c] w4.heap.size rfl)
 clear S6
 obtain ⟨g1, hg⟩ : ∃ g', g' = w4.heap.size := ⟨_, rfl⟩
 rw [← hg] at S7 ⊢
 clear hg
 generalize w4.alloc (.cells #[.slice z3'.f_Txs_a z3'.f_Txs.length z3'.f_Txs_c] 98) = w5 at S7 ⊢
 have f0 := Bag.cs1 S7.out 2 rfl
 go_wp2_with fail
 go_at_call 74
 have HC := Cimpl.out z3' HZz3'.out _ (Bag.bag_rd S7.out 1 rfl)
 try dsimp only [V.vv_TxQueue] at HC
 refine HC.mono ?_
 clear HC
 rintro e w6 ⟨rfl, hb⟩
 clear f0
 have S8 := Lib.hid (S7.out.keep hb)
 clear S7
 clear hb
 go_upto_region 10 with fail
 refine wp_region_held_drew (S := (fun w' => (w'.cell? ⟨W.heap.size, 0, none⟩ = some (.slice y0.f_Txs_a y0.f_Txs.length y0.f_Txs_c)) ∧ (w'.cell? ⟨g1, 0, none⟩ = some (.slice z3'.f_Txs_a z3'.f_Txs.length z3'.f_Txs_c)))) (by kernel_rfl) ⟨Bag.cs1 (Bag.drew1 S8.out) 0 rfl, Bag.cs1 (Bag.drew1 S8.out) 2 rfl⟩ (fun hS => ?_)
 have S9 := Lib.hid (Bag.drew1 S8.out)
 clear S8
 generalize World.drew _ = w7 at hS S9 ⊢
 refine tk 0 rfl ?_
 try simp only [zp0, zp1, zp2, zp3, zp4]
 refine tk 1 rfl ?_
 try simp only [zp0, zp1, zp2, zp3, zp4]
 refine Reg.one_op (i := 2) rfl (by kernel_rfl) (fun K hK => ?_)
 go_simp
 go_at_call 66
 have HC := V.to_TxQueue y0 (by rw [HC0.out]; exact HF0.out) _ (HRY0.out _ S9.out.old)
 try dsimp only [V.vv_TxQueue] at HC
 refine HC.mono ?_
 clear HC
 rintro e w8 ⟨z5', rfl, hcon, ho, hb⟩
 have S10 := Lib.hid (show Sl.Sep W _ [_, _, _, Bag.bag (V.rw_TxQueue z5')] from Bag.push_bag S9.out hb ho)
 clear S9
 clear hb ho
 have HZz5' := Lib.hid (hcon.trans HC0.out)
 clear hcon
 try dsimp only [V.vv_TxQueue]
 go_wp2_with fail
 refine hK.out _ _ ⟨Bag.cs1 S10.out 0 rfl, Bag.cs1 S10.out 2 rfl⟩ (fun hS => ?_)
 clear hK K
 try simp only [zp0, zp1, zp2, zp3, zp4]
 refine Reg.one_op (i := 3) rfl (by kernel_rfl) (fun K hK => ?_)
 go_simp
 go_at_call 68
 have HC := V.eq_TxQueue z3' z5' (HZz3'.out.trans HZz5'.out.symm) (by rw [HZz3'.out]; exact (Nat.le_trans HF0.out (by decide : (1048576 : Nat) ≤ 1125899906842624))) _ (Bag.bag_rd S10.out 1 rfl) (Bag.bag_rd S10.out 3 rfl)
 try dsimp only [V.vv_TxQueue] at HC
 refine HC.mono ?_
 clear HC
 rintro e w9 ⟨rfl, hb⟩
 have S11 := Lib.hid (S10.out.keep hb)
 clear S10
 clear hb
 go_wp2_with fail
 refine hK.out _ _ ⟨Bag.cs1 S11.out 0 rfl, Bag.cs1 S11.out 2 rfl⟩ (fun hS => ?_)
 clear hK K
 try simp only [zp0, zp1, zp2, zp3, zp4]
 refine tk 4 rfl ?_
 try simp only [zp0, zp1, zp2, zp3, zp4]
 refine wpAnyH_done (by kernel_rfl) ?_ _
 have f0 := Bag.cs1 S11.out 0 rfl
 have f1 := Bag.cs1 S11.out 2 rfl
 have S12 := Lib.hid (show Sl.Sep W _ [L4.boxR W.heap.size 94 (V.cs_TxQueue y0), Bag.bag (V.rw_TxQueue z3'), L4.boxR g1 98 (V.cs_TxQueue z3')] from Bag.take S11.out [0, 1, 2] (by rfl) (by decide))
 clear S11
 go_wp2_with fail
 go_ret
 exact ⟨rfl, S12.out.old⟩

set_option maxRecDepth 100000 in
theorem lifted (os : Os) (started : os.Started) (H : Type) (enc : TypeId × Value → H) :
  ReturnsInHanded {} Try.checked os 13 .any (Rows.fnExactCanStartSpec.pre6 enc Try.prog Try.f13 Rows.fnExactCanStartRow.domain false) (Rows.fnExactCanStartSpec.post enc Try.prog Try.f13 false true false false) := by
 refine returnsInHanded_of_change_sized (C := Try.checked) own started (by kernel_rfl) Try.func13
  (ChangeSpec.witness6 (enc := enc) (C := Try.checked) false ⟨#[], #[.agg #[.slice none 0 0], .int .i64 0], []⟩ 8 (by kernel_rfl) (by kernel_rfl) (by kernel_rfl) (by kernel_rfl)) ?_
 intro W base args ds gs before hval0 hW _ hsz0 _
 have hval : ∀ (j : Nat) t v, Try.f13.params[j]? = some t → args[j]? = some v → Value.okWide Try.prog W .any base t v := hval0
 have hW' := hW
 obtain ⟨p, q, hA0, hV, rfl, _, _⟩ := hW
 have hA : DataW.TrodAll enc Try.prog W 0 (fun _ => true) true Try.f13.params.toList args.toList ds p := hA0
 obtain ⟨rfl, rfl⟩ := trodVars_none hV
 have hlt : ∀ x ∈ p, x.block < W.heap.size := fun x hx => hW'.lt x (by simpa using hx)
 simp only [List.append_nil] at hW'
 have hw := walk H enc W base args ds p hval hA hlt hsz0
 have hA1 := hA
 clear hA0 hval0 hsz0 hval hlt
 rw [Try.params13] at hA
 obtain ⟨v0, vs0, d0, ds0, p0, q0, e0, rfl, rfl, h0, hr0⟩ := trodAll_cons hA
 obtain ⟨v1, vs1, d1, ds1, p1, q1, e1, rfl, rfl, h1, hr1⟩ := trodAll_cons hr0
 obtain ⟨e2, rfl, rfl⟩ := trodAll_nil hr1
 refine hw.mono fun e W' ⟨he, hb⟩ => ?_
 subst he
 exact ⟨_, rfl, Frame.law_post (tb := 4) rfl hW' hA1 rfl rfl rfl laidOut (by kernel_rfl) (by kernel_rfl) Try.underlying4 hb⟩

theorem closedFacts : joinedFacts Try.pinned.checked.prog 13 Try.f13 Rows.fnExactCanStartSpec Rows.fnExactCanStartRow = true := by
 have h1 : Try.pinned.checked.prog.mayEnter = true := Closed.mayIn
 have h2 : (Rows.fnExactCanStartRow.lifted == Try.pinned.checked.prog.liftsFinal) = true := by
  rw [show Try.pinned.checked.prog.liftsFinal = false from Closed.liftsNone]; rfl
 have h3 : (Try.pinned.checked.prog.make == some Rows.fnExactCanStartRow.make) = true := by
  rw [show Try.pinned.checked.prog.make = some .cut from Closed.makeIs]; rfl
 unfold joinedFacts
 rw [h1, h2, h3]
 change _ = true
 kernel_rfl
theorem holds : Rows.FnExactCanStartSaid :=
 OpenClaim.holds_of_wide 13 Try.f13 rfl rfl rfl rfl rfl rfl rfl ⟨rfl, rfl, rfl, rfl, rfl⟩ rfl rfl rfl rfl rfl (by kernel_rfl) Try.func13 closedFacts
  (of_decide_eq_true (by kernel_rfl)) (by unfold Func.isWrapper; first | (rw [if_pos (by decide +kernel)]; kernel_rfl) | (rw [if_neg (by decide +kernel)]; exact ⟨rfl, rfl⟩))
  (fun os started H enc _ => lifted os started H enc)

#print axioms holds
end Go.Proofs.Ytojcdmgcbgpdmaa.lawFnExactCanStart
