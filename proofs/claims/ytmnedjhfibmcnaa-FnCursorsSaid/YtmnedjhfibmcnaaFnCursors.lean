/-
  The law FnCursors answers true for every argument, and leaves its arguments as they were. No condition.
  (The frame is written by my program mk_law.py.)
-/
import Derived.Test.YtmnedjhfibmcnaaFnCursorsP5
import Derived.SizedLaws
import Derived.LaidLaws
import Derived.ShutString
import Derived.Stop.LaidErr
import Derived.Lib.LaidTab
set_option linter.unusedSimpArgs false
namespace Go.Proofs.Ytmnedjhfibmcnaa.lawFnCursors
open Go.ChangeShapes Go.WideShapes Go.ChangeAt Go.RowKit
open Go.ChangeMaps (open_string shut_string)
set_option linter.unusedVariables false
theorem own : ownKnob Try.prog.godebug = none := by kernel_rfl
theorem laidOut : laidOutB Try.prog = true := by kernel_rfl
open Mem Sl Ex Sd L2 Sv Bag
open L4 (K isK cmpK R inR encU)
open L5 (F isR isN cellsF encR eqR Small Tame)
open L6
open L7
theorem later {w w' : World} {a : Addr} {v : Value} (h : Below w.heap.size w w') (hc : w.cell? a = some v) : w'.cell? a = some v := by
  rw [h.cell (World.block_lt_of_cell? w a hc)]
  exact hc
theorem key_self (k : K) (w : World) : (Op.equalIn 10000 28 (.agg #[.int .i64 k.kind, .int .i64 k.n, .string k.text]) (.agg #[.int .i64 k.kind, .int .i64 k.n, .string k.text])).run Try.prog w = .ok true w := by
  rw [key_eq, eqK_refl]
set_option maxHeartbeats 2000000 in
theorem cur_self (x : Cu) (w : World) : (Op.equalIn 10000 60 x.v x.v).run Try.prog w = .ok true w := by
  unfold Cu.v
  simp [go_sem]
def xs7 (a : Option Addr) (c : Nat) (ys : List LI) : LS := ⟨⟨#[]⟩, a, c, ys, 0⟩
theorem rd7 {w : World} {B : Nat} {a : Option Addr} {c : Nat} {ys : List LI} (h : RowsRd w B (rowI a c ys :: rowsI ys)) : Reads w B a (cellsI ys) := LS.outer (s := xs7 a c ys) h

theorem eqR_self (l : List L5.F) : L5.eqR l l = true := L5.eqR_iff.2 rfl
set_option maxRecDepth 100000 in
set_option maxHeartbeats 8000000 in
theorem walk (H : Type) (enc : TypeId × Value → H) (W : World) (base : Nat) (args : Array Value) (ds : List (DataW H)) (p : List MemPlace)
    (hval : ∀ (j : Nat) t v, Try.f5.params[j]? = some t → args[j]? = some v → Value.okWide Try.prog W .any base t v)
    (hA : DataW.TrodAll enc Try.prog W 0 (fun _ => true) true Try.f5.params.toList args.toList ds p)
    (hlt : ∀ x ∈ p, x.block < W.heap.size)
    (hsz : (DataW.weightsEach Try.prog (Try.f5.params.toList ++ Rows.fnCursorsSpec.plain.varTypes Try.prog) (ds ++ [])).all (· ≤ reachBytes) = true) :
    Calls Try.prog 5 args W fun e w' => e = .returned (.bool true) ∧ Below W.heap.size W w' := by
  rw [Try.params5] at hA hval hsz
  obtain ⟨v0, d0, rfl, rfl, h0⟩ := trodAll_one hA
  obtain ⟨a0, l0, c0, rfl, hC0, -, hR0, hW0⟩ := Law.open_list Try.underlying22 Try.underlying5 (by kernel_rfl) (hval 0 22 v0 rfl rfl) h0 hlt
  have hby : Mem.Bytes W W.heap.size a0 l0.length := fun j hj => by
    obtain ⟨ad, he, hb, hc⟩ := hR0.int j hj
    have := Law.wf_u8 (hW0 l0[j] (List.getElem_mem hj))
    exact ⟨ad, _, he, hb, hc, this.1, this.2⟩
  obtain ⟨n0, hn0⟩ : ∃ n, n = l0.length := ⟨_, rfl⟩
  rw [← hn0] at hby hC0 ⊢
  clear hn0 hR0 hW0 hA hval hlt hsz h0
  have S0 := Sl.Sep.start W
  by_cases hbig : n0 > 1048576
  · go_enter Try.func5, Try.ntmps5
    go_wp2_with (go_at_call 13; refine (big_s _ S0).mono ?_; rw [decide_eq_true hbig]; rintro e w1 ⟨rfl, S1⟩)
    go_ret
    exact ⟨rfl, S1.old⟩
  · have hsm : n0 ≤ 4611686018427387904 := by omega
    go_enter Try.func5, Try.ntmps5
    go_wp2_with fail
    go_at_call 13
    refine (big_s _ S0).mono ?_
    rw [decide_eq_false hbig]
    rintro e w1 ⟨rfl, S1⟩
    clear S0 l0
    go_wp2_with fail
    have HBY := Lib.hid hby
    have HSM := Lib.hid hsm
    go_at_call 32
    refine (drawItemsIn_q _ hsm hby S1).mono ?_
    rintro e w2 ⟨y, r, rfl, hF, hr, hS⟩
    have HFY := Lib.hid hF
    have HRG := Lib.hid (show r.lo.text.size ≤ 281474976710656 ∧ r.hi.text.size ≤ 281474976710656 from ⟨by have : r.lo.text.size = 0 := hr.1; omega, by have : r.hi.text.size = 0 := hr.2; omega⟩)
    clear hF hr S1 hsm hby
    have S2 := Lib.hid (show Sl.Sep W _ [Bag.bag y.rows] from hS)
    clear hS
    dsimp only [LS.v, LS.cells, L4.R.v, L4.K.v]
    go_upto_region 4 with fail
    have S3 := Lib.hid (show Sl.Sep W _ [Bag.bag y.rows, L4.boxR w2.heap.size 26 #[.string y.name, .slice y.a y.xs.length y.c, .int .i64 y.auto], L4.boxR (w2.heap.size + 1) 30 #[.bool r.hl, .bool r.hh, .int .i64 r.lo.kind, .int .i64 r.lo.n, .string r.lo.text, .int .i64 r.hi.kind, .int .i64 r.hi.n, .string r.hi.text]] from L4.push_box (L4.push_box (S2.out) 26 #[.string y.name, .slice y.a y.xs.length y.c, .int .i64 y.auto] (w2.heap.size) (by simp)) 30 #[.bool r.hl, .bool r.hh, .int .i64 r.lo.kind, .int .i64 r.lo.n, .string r.lo.text, .int .i64 r.hi.kind, .int .i64 r.hi.n, .string r.hi.text] (w2.heap.size + 1) (by simp))
    clear S2
    obtain ⟨g1, hg⟩ : ∃ g', g' = w2.heap.size := ⟨_, rfl⟩
    rw [← hg] at S3 ⊢
    clear hg
    obtain ⟨g2, hg⟩ : ∃ g', g' = g1 + 1 := ⟨_, rfl⟩
    (try rw [← hg] at S3); (try rw [← hg])
    clear hg
    obtain ⟨w3, hw⟩ : ∃ uu, uu = ((w2.alloc (.cells #[.string y.name, .slice y.a y.xs.length y.c, .int .i64 y.auto] 26)).alloc (.cells #[.bool r.hl, .bool r.hh, .int .i64 r.lo.kind, .int .i64 r.lo.n, .string r.lo.text, .int .i64 r.hi.kind, .int .i64 r.hi.n, .string r.hi.text] 30)) := ⟨_, rfl⟩
    rw [← hw] at S3 ⊢
    clear hw
    have HY := Lib.hid (fun w' (h : Below w3.heap.size w3 w') => (Bag.bag_rd S3.out 0 rfl).below h)
    have HBS := Lib.hid (fun w' (h : Below w3.heap.size w3 w') => (show World.cell? w' ⟨g1, 0, none⟩ = some (.string y.name) ∧ World.cell? w' ⟨g1, 1, none⟩ = some (.slice y.a y.xs.length y.c) ∧ World.cell? w' ⟨g1, 2, none⟩ = some (.int .i64 y.auto) from ⟨later h (Bag.cell_at S3.out 1 rfl 0 rfl), later h (Bag.cell_at S3.out 1 rfl 1 rfl), later h (Bag.cell_at S3.out 1 rfl 2 rfl)⟩))
    have HBG := Lib.hid (fun w' (h : Below w3.heap.size w3 w') => (show World.cell? w' ⟨g2, 0, none⟩ = some (.bool r.hl) ∧ World.cell? w' ⟨g2, 1, none⟩ = some (.bool r.hh) ∧ World.cell? w' ⟨g2, 2, none⟩ = some (.int .i64 r.lo.kind) ∧ World.cell? w' ⟨g2, 3, none⟩ = some (.int .i64 r.lo.n) ∧ World.cell? w' ⟨g2, 4, none⟩ = some (.string r.lo.text) ∧ World.cell? w' ⟨g2, 5, none⟩ = some (.int .i64 r.hi.kind) ∧ World.cell? w' ⟨g2, 6, none⟩ = some (.int .i64 r.hi.n) ∧ World.cell? w' ⟨g2, 7, none⟩ = some (.string r.hi.text) from ⟨later h (Bag.cell_at S3.out 2 rfl 0 rfl), later h (Bag.cell_at S3.out 2 rfl 1 rfl), later h (Bag.cell_at S3.out 2 rfl 2 rfl), later h (Bag.cell_at S3.out 2 rfl 3 rfl), later h (Bag.cell_at S3.out 2 rfl 4 rfl), later h (Bag.cell_at S3.out 2 rfl 5 rfl), later h (Bag.cell_at S3.out 2 rfl 6 rfl), later h (Bag.cell_at S3.out 2 rfl 7 rfl)⟩))
    have HW := Lib.hid S3.out.old
    have S4 := Lib.hid (Sl.Sep.start w3)
    clear S3
    cases hv : isS y.con with
    | false =>
      have HV := Lib.hid hv
      clear hv
      have hh := HBS.out _ S4.out.old
      have f0 := hh.1; have f1 := hh.2.1; have f2 := hh.2.2; clear hh
      have hh := HBG.out _ S4.out.old
      have f3 := hh.1; have f4 := hh.2.1; have f5 := hh.2.2.1; have f6 := hh.2.2.2.1; have f7 := hh.2.2.2.2.1; have f8 := hh.2.2.2.2.2.1; have f9 := hh.2.2.2.2.2.2.1; have f10 := hh.2.2.2.2.2.2.2; clear hh
      have HC := specIsStore_any y HFY.out _ ((HY.out _ S4.out.old).more S4.out.old.size)
      rw [HV.out] at HC
      try dsimp only [LS.v, LS.cells, L4.K.v, L4.R.v, Cu.v] at HC
      go_wp2_with fail
      go_at_call 17
      refine HC.mono ?_
      clear HC
      rintro e w4 ⟨rfl, hb⟩
      clear f0 f1 f2 f3 f4 f5 f6 f7 f8 f9 f10
      have S5 := Lib.hid (S4.out.keep hb)
      clear S4
      clear hb
      try dsimp only [LS.v, LS.cells, L4.K.v, L4.R.v, Cu.v]
      have hh := HBS.out _ S5.out.old
      have f0 := hh.1; have f1 := hh.2.1; have f2 := hh.2.2; clear hh
      have hh := HBG.out _ S5.out.old
      have f3 := hh.1; have f4 := hh.2.1; have f5 := hh.2.2.1; have f6 := hh.2.2.2.1; have f7 := hh.2.2.2.2.1; have f8 := hh.2.2.2.2.2.1; have f9 := hh.2.2.2.2.2.2.1; have f10 := hh.2.2.2.2.2.2.2; clear hh
      have HC := walkStore_any y (⟨⟨false, false, ⟨0, 0, ⟨#[]⟩⟩, ⟨0, 0, ⟨#[]⟩⟩⟩, false, false, ⟨0, 0, ⟨#[]⟩⟩⟩ : Cu) HFY.out ⟨by decide, by decide, by decide⟩ _ ((HY.out _ S5.out.old).more S5.out.old.size)
      try dsimp only [LS.v, LS.cells, L4.K.v, L4.R.v, Cu.v] at HC
      go_wp2_with fail
      go_at_call 33
      refine HC.mono ?_
      clear HC
      rintro e w5 ⟨la, lc, ys, rfl, hys, ho, hb⟩
      clear f0 f1 f2 f3 f4 f5 f6 f7 f8 f9 f10
      have S6 := Lib.hid (show Sl.Sep w3 _ [Bag.bag (rowI la lc ys :: rowsI ys)] from Bag.push_bag S5.out hb ho)
      clear S5
      clear ho hb
      try dsimp only [LS.v, LS.cells, L4.K.v, L4.R.v, Cu.v]
      have hle : (ys.length : Int) ≤ 16 := by have h := congrArg List.length hys; rw [conI_length] at h; have := walkI_len y.con.items 16 (⟨⟨false, false, ⟨0, 0, ⟨#[]⟩⟩, ⟨0, 0, ⟨#[]⟩⟩⟩, false, false, ⟨0, 0, ⟨#[]⟩⟩⟩ : Cu); omega
      clear hys
      go_wp2_with fail
      go_ret
      exact ⟨rfl, HW.out.trans (S6.out.old.mono HW.out.size)⟩
    | true =>
      have HV := Lib.hid hv
      clear hv
      have hh := HBS.out _ S4.out.old
      have f0 := hh.1; have f1 := hh.2.1; have f2 := hh.2.2; clear hh
      have hh := HBG.out _ S4.out.old
      have f3 := hh.1; have f4 := hh.2.1; have f5 := hh.2.2.1; have f6 := hh.2.2.2.1; have f7 := hh.2.2.2.2.1; have f8 := hh.2.2.2.2.2.1; have f9 := hh.2.2.2.2.2.2.1; have f10 := hh.2.2.2.2.2.2.2; clear hh
      have HC := specIsStore_any y HFY.out _ ((HY.out _ S4.out.old).more S4.out.old.size)
      rw [HV.out] at HC
      try dsimp only [LS.v, LS.cells, L4.K.v, L4.R.v, Cu.v] at HC
      go_wp2_with fail
      go_at_call 17
      refine HC.mono ?_
      clear HC
      rintro e w4 ⟨rfl, hb⟩
      clear f0 f1 f2 f3 f4 f5 f6 f7 f8 f9 f10
      have S5 := Lib.hid (S4.out.keep hb)
      clear S4
      clear hb
      try dsimp only [LS.v, LS.cells, L4.K.v, L4.R.v, Cu.v]
      have HWB := Lib.hid (walk_both HV.out r ⟨0, 0, ⟨#[]⟩⟩)
      have hh := HBS.out _ S5.out.old
      have f0 := hh.1; have f1 := hh.2.1; have f2 := hh.2.2; clear hh
      have hh := HBG.out _ S5.out.old
      have f3 := hh.1; have f4 := hh.2.1; have f5 := hh.2.2.1; have f6 := hh.2.2.2.1; have f7 := hh.2.2.2.2.1; have f8 := hh.2.2.2.2.2.1; have f9 := hh.2.2.2.2.2.2.1; have f10 := hh.2.2.2.2.2.2.2; clear hh
      have HC := specItemsIn_any y r HFY.out HRG.out.1 HRG.out.2 _ ((HY.out _ S5.out.old).more S5.out.old.size)
      try dsimp only [LS.v, LS.cells, L4.K.v, L4.R.v, Cu.v] at HC
      go_wp2_with fail
      go_at_call 34
      refine HC.mono ?_
      clear HC
      rintro e w5 ⟨la, lc, ys, rfl, hys, ho, hb⟩
      clear f0 f1 f2 f3 f4 f5 f6 f7 f8 f9 f10
      have S6 := Lib.hid (show Sl.Sep w3 _ [Bag.bag (rowI la lc ys :: rowsI ys)] from Bag.push_bag S5.out hb ho)
      clear S5
      clear ho hb
      try dsimp only [LS.v, LS.cells, L4.K.v, L4.R.v, Cu.v]
      have HYS := Lib.hid hys
      clear hys
      have hh := HBS.out _ S6.out.old
      have f0 := hh.1; have f1 := hh.2.1; have f2 := hh.2.2; clear hh
      have hh := HBG.out _ S6.out.old
      have f3 := hh.1; have f4 := hh.2.1; have f5 := hh.2.2.1; have f6 := hh.2.2.2.1; have f7 := hh.2.2.2.2.1; have f8 := hh.2.2.2.2.2.1; have f9 := hh.2.2.2.2.2.2.1; have f10 := hh.2.2.2.2.2.2.2; clear hh
      have HC := walkStore_any y (⟨r, false, false, ⟨0, 0, ⟨#[]⟩⟩⟩ : Cu) HFY.out ⟨HRG.out.1, HRG.out.2, by show (⟨#[]⟩ : ByteArray).size ≤ 281474976710656; decide⟩ _ ((HY.out _ S6.out.old).more S6.out.old.size)
      rw [HWB.out.1] at HC
      try dsimp only [LS.v, LS.cells, L4.K.v, L4.R.v, Cu.v] at HC
      go_wp2_with fail
      go_at_call 33
      refine HC.mono ?_
      clear HC
      rintro e w6 ⟨usa, usc, us, rfl, hys, ho, hb⟩
      clear f0 f1 f2 f3 f4 f5 f6 f7 f8 f9 f10
      have S7 := Lib.hid (show Sl.Sep w3 _ [Bag.bag (rowI la lc ys :: rowsI ys), Bag.bag (rowI usa usc us :: rowsI us)] from Bag.push_bag S6.out hb ho)
      clear S6
      clear ho hb
      try dsimp only [LS.v, LS.cells, L4.K.v, L4.R.v, Cu.v]
      have HUS := Lib.hid (show conI us = conI ys from by rw [hys, HYS.out])
      clear hys
      have hh := HBS.out _ S7.out.old
      have f0 := hh.1; have f1 := hh.2.1; have f2 := hh.2.2; clear hh
      have hh := HBG.out _ S7.out.old
      have f3 := hh.1; have f4 := hh.2.1; have f5 := hh.2.2.1; have f6 := hh.2.2.2.1; have f7 := hh.2.2.2.2.1; have f8 := hh.2.2.2.2.2.1; have f9 := hh.2.2.2.2.2.2.1; have f10 := hh.2.2.2.2.2.2.2; clear hh
      have HC := walkStore_any y (⟨r, true, false, ⟨0, 0, ⟨#[]⟩⟩⟩ : Cu) HFY.out ⟨HRG.out.1, HRG.out.2, by show (⟨#[]⟩ : ByteArray).size ≤ 281474976710656; decide⟩ _ ((HY.out _ S7.out.old).more S7.out.old.size)
      rw [HWB.out.2] at HC
      try dsimp only [LS.v, LS.cells, L4.K.v, L4.R.v, Cu.v] at HC
      go_wp2_with fail
      go_at_call 33
      refine HC.mono ?_
      clear HC
      rintro e w7 ⟨zsa, zsc, zs, rfl, hys, ho, hb⟩
      clear f0 f1 f2 f3 f4 f5 f6 f7 f8 f9 f10
      have S8 := Lib.hid (show Sl.Sep w3 _ [Bag.bag (rowI la lc ys :: rowsI ys), Bag.bag (rowI usa usc us :: rowsI us), Bag.bag (rowI zsa zsc zs :: rowsI zs)] from Bag.push_bag S7.out hb ho)
      clear S7
      clear ho hb
      try dsimp only [LS.v, LS.cells, L4.K.v, L4.R.v, Cu.v]
      have HZS := Lib.hid (show conI zs = (conI ys).reverse from by rw [hys, HYS.out])
      clear hys
      replace HY := Lib.hid (fun w' (h : Below w7.heap.size w7 w') => (HY.out w' (S8.out.old.trans (h.mono S8.out.old.size))).more S8.out.old.size)
      replace HBS := Lib.hid (fun w' (h : Below w7.heap.size w7 w') => HBS.out w' (S8.out.old.trans (h.mono S8.out.old.size)))
      replace HBG := Lib.hid (fun w' (h : Below w7.heap.size w7 w') => HBG.out w' (S8.out.old.trans (h.mono S8.out.old.size)))
      have HLR := Lib.hid (fun w' (h : Below w7.heap.size w7 w') => (Bag.bag_rd S8.out 0 rfl).below h)
      have HAR := Lib.hid (fun w' (h : Below w7.heap.size w7 w') => (Bag.bag_rd S8.out 1 rfl).below h)
      have HBR := Lib.hid (fun w' (h : Below w7.heap.size w7 w') => (Bag.bag_rd S8.out 2 rfl).below h)
      replace HW := Lib.hid (HW.out.trans (S8.out.old.mono HW.out.size))
      have S9 := Lib.hid (Sl.Sep.start w7)
      clear S8
      obtain ⟨N, hN⟩ : ∃ N, N = ys.length := ⟨_, rfl⟩
      have HN := Lib.hid hN
      have hal : us.length = N := by have h := congrArg List.length HUS.out; rw [conI_length, conI_length] at h; omega
      have hbl : zs.length = N := by have h := congrArg List.length HZS.out; rw [conI_length, List.length_reverse, conI_length] at h; omega
      rw [hal, hbl, ← hN]
      have HAL := Lib.hid (And.intro hal hbl)
      have hNl : N ≤ 1048576 := by have h := inI_len (r := r) HFY.out.len; rw [← HYS.out, conI_length] at h; omega
      clear hal hbl hN
      go_wp2_with fail
      go_loopw [8] (fun i wr => ∃ k : Nat, k ≤ N ∧ i = .int .i64 k ∧ Hid (Sl.Sep w7 wr [])) (fun i _ => N - (intOf i).toNat)
      case atStart => exact ⟨0, Nat.zero_le _, rfl, S9.out⟩
      case round =>
        obtain ⟨k, hk, rfl, hrel⟩ := hrel
        have S10 := Lib.hid hrel.out
        clear hrel S9
        by_cases hlt : (k : Int) < (N : Int)
        · skip
          obtain ⟨e, he⟩ : ∃ e : Nat, (N : Int) - 1 - (k : Int) = (e : Int) := ⟨N - 1 - k, by omega⟩
          have heN : e + 1 + k = N := by omega
          have heI : (e : Int) < (N : Int) := by omega
          have hw1 : IntKind.i64.wrap ((N : Int) - 1) = (N : Int) - 1 := IntWalk.i64_in _ ⟨by omega, by omega⟩
          have hw2 : IntKind.i64.wrap (e : Int) = (e : Int) := IntWalk.i64_in _ ⟨by omega, by omega⟩
          have hkl : k < ys.length := by have := HN.out; omega
          have hka : k < us.length := by have := HAL.out.1; omega
          have heb : e < zs.length := by have := HAL.out.2; omega
          obtain ⟨ad1, x1, e1', hx1⟩ := readsI_some (rd7 (HLR.out _ S10.out.old)) k hkl
          have e1'' : la = some ad1 := e1'
          subst e1''
          clear e1'
          have HK1 := Lib.hid (fun w' (h : Below w7.heap.size w7 w') => readsI_at (rd7 (HLR.out _ h)) k _ hx1)
          obtain ⟨ad2, x2, e2', hx2⟩ := readsI_some (rd7 (HAR.out _ S10.out.old)) k hka
          have e2'' : usa = some ad2 := e2'
          subst e2''
          clear e2'
          have HK2 := Lib.hid (fun w' (h : Below w7.heap.size w7 w') => readsI_at (rd7 (HAR.out _ h)) k _ hx2)
          obtain ⟨ad3, x3, e3', hx3⟩ := readsI_some (rd7 (HBR.out _ S10.out.old)) e heb
          have e3'' : zsa = some ad3 := e3'
          subst e3''
          clear e3'
          have HK3 := Lib.hid (fun w' (h : Below w7.heap.size w7 w') => readsI_at (rd7 (HBR.out _ h)) e _ hx3)
          have hk2 : x2.k = x1.k := by
            have h2 : (conI us)[k]? = some x2.con := con_of hx2
            rw [HUS.out, show (conI ys)[k]? = some x1.con from con_of hx1] at h2
            exact (congrArg It.k (Option.some.inj h2)).symm
          have hk3 : x3.k = x1.k := by
            have h2 : (conI zs)[e]? = some x3.con := con_of hx3
            rw [HZS.out, List.getElem?_reverse (by rw [conI_length]; have := HN.out; omega), conI_length, show ys.length - 1 - e = k by have := HN.out; omega, show (conI ys)[k]? = some x1.con from con_of hx1] at h2
            exact (congrArg It.k (Option.some.inj h2)).symm
          rw [hk2] at HK2
          rw [hk3] at HK3
          obtain ⟨⟨kd, n, t⟩, ia, ic, l⟩ := x1
          obtain ⟨k2_, ia2, ic2, l2⟩ := x2
          obtain ⟨k3_, ia3, ic3, l3⟩ := x3
          dsimp only at HK1 HK2 HK3
          clear hx1 hx2 hx3 hk2 hk3
          have HEQ := fun w => key_self ⟨kd, n, t⟩ w
          dsimp only at HEQ
          have hh := HBS.out _ S10.out.old
          have f0 := hh.1; have f1 := hh.2.1; have f2 := hh.2.2; clear hh
          have hh := HBG.out _ S10.out.old
          have f3 := hh.1; have f4 := hh.2.1; have f5 := hh.2.2.1; have f6 := hh.2.2.2.1; have f7 := hh.2.2.2.2.1; have f8 := hh.2.2.2.2.2.1; have f9 := hh.2.2.2.2.2.2.1; have f10 := hh.2.2.2.2.2.2.2; clear hh
          have hh := HK1.out _ S10.out.old
          have f11 := hh.1; have f12 := hh.2.1; have f13 := hh.2.2.1; have f14 := hh.2.2.2; clear hh
          have hh := HK2.out _ S10.out.old
          have f15 := hh.1; have f16 := hh.2.1; have f17 := hh.2.2.1; have f18 := hh.2.2.2; clear hh
          have hh := HK3.out _ S10.out.old
          have f19 := hh.1; have f20 := hh.2.1; have f21 := hh.2.2.1; have f22 := hh.2.2.2; clear hh
          go_upto_region 14 with fail
          clear f0 f1 f2 f3 f4 f5 f6 f7 f8 f9 f10 f11 f12 f13 f14 f15 f16 f17 f18 f19 f20 f21 f22
          refine wp_region_held_drew (S := (fun w' => (World.cell? w' (⟨g1, 0, none⟩) = some (.string y.name) ∧ World.cell? w' (⟨g1, 1, none⟩) = some (.slice y.a y.xs.length y.c) ∧ World.cell? w' (⟨g1, 2, none⟩) = some (.int .i64 y.auto)) ∧ (World.cell? w' (⟨g2, 0, none⟩) = some (.bool r.hl) ∧ World.cell? w' (⟨g2, 1, none⟩) = some (.bool r.hh) ∧ World.cell? w' (⟨g2, 2, none⟩) = some (.int .i64 r.lo.kind) ∧ World.cell? w' (⟨g2, 3, none⟩) = some (.int .i64 r.lo.n) ∧ World.cell? w' (⟨g2, 4, none⟩) = some (.string r.lo.text) ∧ World.cell? w' (⟨g2, 5, none⟩) = some (.int .i64 r.hi.kind) ∧ World.cell? w' (⟨g2, 6, none⟩) = some (.int .i64 r.hi.n) ∧ World.cell? w' (⟨g2, 7, none⟩) = some (.string r.hi.text)) ∧ (World.cell? w' (ad1.add (k * 4)) = some (.int .i64 kd) ∧ World.cell? w' (⟨(ad1.add (k * 4)).block, (ad1.add (k * 4)).off + 1, none⟩) = some (.int .i64 n) ∧ World.cell? w' (⟨(ad1.add (k * 4)).block, (ad1.add (k * 4)).off + 2, none⟩) = some (.string t) ∧ World.cell? w' (⟨(ad1.add (k * 4)).block, (ad1.add (k * 4)).off + 3, none⟩) = some (.slice ia l.length ic)) ∧ (World.cell? w' (ad2.add (k * 4)) = some (.int .i64 kd) ∧ World.cell? w' (⟨(ad2.add (k * 4)).block, (ad2.add (k * 4)).off + 1, none⟩) = some (.int .i64 n) ∧ World.cell? w' (⟨(ad2.add (k * 4)).block, (ad2.add (k * 4)).off + 2, none⟩) = some (.string t) ∧ World.cell? w' (⟨(ad2.add (k * 4)).block, (ad2.add (k * 4)).off + 3, none⟩) = some (.slice ia2 l2.length ic2)) ∧ (World.cell? w' (ad3.add (e * 4)) = some (.int .i64 kd) ∧ World.cell? w' (⟨(ad3.add (e * 4)).block, (ad3.add (e * 4)).off + 1, none⟩) = some (.int .i64 n) ∧ World.cell? w' (⟨(ad3.add (e * 4)).block, (ad3.add (e * 4)).off + 2, none⟩) = some (.string t) ∧ World.cell? w' (⟨(ad3.add (e * 4)).block, (ad3.add (e * 4)).off + 3, none⟩) = some (.slice ia3 l3.length ic3)))) (by kernel_rfl) ⟨HBS.out _ (Bag.drew1 S10.out).old, HBG.out _ (Bag.drew1 S10.out).old, HK1.out _ (Bag.drew1 S10.out).old, HK2.out _ (Bag.drew1 S10.out).old, HK3.out _ (Bag.drew1 S10.out).old⟩ (fun hS => ?_)
          have S11 := Lib.hid (show Sl.Sep w7 _ [] from Bag.drew1 S10.out)
          clear S10
          generalize World.drew _ = w8 at hS S11 ⊢
          refine tk 0 rfl ?_
          try simp only [zp0, zp1, zp2, zp3, zp4]
          refine tk 1 rfl ?_
          try simp only [zp0, zp1, zp2, zp3, zp4]
          refine tk 2 rfl ?_
          try simp only [zp0, zp1, zp2, zp3, zp4]
          refine tk 3 rfl ?_
          try simp only [zp0, zp1, zp2, zp3, zp4]
          refine tk 4 rfl ?_
          try simp only [zp0, zp1, zp2, zp3, zp4]
          refine tk 5 rfl ?_
          try simp only [zp0, zp1, zp2, zp3, zp4]
          refine tk 6 rfl ?_
          try simp only [zp0, zp1, zp2, zp3, zp4]
          refine tk 7 rfl ?_
          try simp only [zp0, zp1, zp2, zp3, zp4]
          refine tk 8 rfl ?_
          try simp only [zp0, zp1, zp2, zp3, zp4]
          refine tk 9 rfl ?_
          try simp only [zp0, zp1, zp2, zp3, zp4]
          refine tk 10 rfl ?_
          try simp only [zp0, zp1, zp2, zp3, zp4]
          refine tk 11 rfl ?_
          try simp only [zp0, zp1, zp2, zp3, zp4]
          refine tk 12 rfl ?_
          try simp only [zp0, zp1, zp2, zp3, zp4]
          refine tk 13 rfl ?_
          try simp only [zp0, zp1, zp2, zp3, zp4]
          refine tk 14 rfl ?_
          try simp only [zp0, zp1, zp2, zp3, zp4]
          refine tk 15 rfl ?_
          try simp only [zp0, zp1, zp2, zp3, zp4]
          refine tk 16 rfl ?_
          try simp only [zp0, zp1, zp2, zp3, zp4]
          refine tk 17 rfl ?_
          try simp only [zp0, zp1, zp2, zp3, zp4]
          refine tk 18 rfl ?_
          try simp only [zp0, zp1, zp2, zp3, zp4]
          refine tk 19 rfl ?_
          try simp only [zp0, zp1, zp2, zp3, zp4]
          refine tk 20 rfl ?_
          try simp only [zp0, zp1, zp2, zp3, zp4]
          refine tk 21 rfl ?_
          try simp only [zp0, zp1, zp2, zp3, zp4]
          refine tk 22 rfl ?_
          try simp only [zp0, zp1, zp2, zp3, zp4]
          refine tk 23 rfl ?_
          try simp only [zp0, zp1, zp2, zp3, zp4]
          refine tk 24 rfl ?_
          try simp only [zp0, zp1, zp2, zp3, zp4]
          refine tk 25 rfl ?_
          try simp only [zp0, zp1, zp2, zp3, zp4]
          refine tk 26 rfl ?_
          try simp only [zp0, zp1, zp2, zp3, zp4]
          refine tk 27 rfl ?_
          try simp only [zp0, zp1, zp2, zp3, zp4]
          refine wpAnyH_done (by kernel_rfl) ?_ _
          have hh := HBS.out _ S11.out.old
          have f0 := hh.1; have f1 := hh.2.1; have f2 := hh.2.2; clear hh
          have hh := HBG.out _ S11.out.old
          have f3 := hh.1; have f4 := hh.2.1; have f5 := hh.2.2.1; have f6 := hh.2.2.2.1; have f7 := hh.2.2.2.2.1; have f8 := hh.2.2.2.2.2.1; have f9 := hh.2.2.2.2.2.2.1; have f10 := hh.2.2.2.2.2.2.2; clear hh
          have hh := HK1.out _ S11.out.old
          have f11 := hh.1; have f12 := hh.2.1; have f13 := hh.2.2.1; have f14 := hh.2.2.2; clear hh
          have hh := HK2.out _ S11.out.old
          have f15 := hh.1; have f16 := hh.2.1; have f17 := hh.2.2.1; have f18 := hh.2.2.2; clear hh
          have hh := HK3.out _ S11.out.old
          have f19 := hh.1; have f20 := hh.2.1; have f21 := hh.2.2.1; have f22 := hh.2.2.2; clear hh
          go_wp2_with fail
          go_roundw
          case rel => exact ⟨k + 1, by omega, by go_num, S11.out⟩
          case measure => simp [intOf]; omega
        · skip
          clear HLR HAR HBR HYS HUS HZS HWB
          have hh := HBS.out _ S10.out.old
          have f0 := hh.1; have f1 := hh.2.1; have f2 := hh.2.2; clear hh
          have hh := HBG.out _ S10.out.old
          have f3 := hh.1; have f4 := hh.2.1; have f5 := hh.2.2.1; have f6 := hh.2.2.2.1; have f7 := hh.2.2.2.2.1; have f8 := hh.2.2.2.2.2.1; have f9 := hh.2.2.2.2.2.2.1; have f10 := hh.2.2.2.2.2.2.2; clear hh
          go_wp2_with fail
          go_at_call 35
          go_at_call 35
          have hby2 : Mem.Bytes w7 w7.heap.size a0 n0 := fun j hj => by
            obtain ⟨ad, v, he, hb, hc, h1, h2⟩ := (HBY.out.below HW.out) j hj
            exact ⟨ad, v, he, Nat.lt_of_lt_of_le hb HW.out.size, hc, h1, h2⟩
          refine (drawCursorNext_q _ HSM.out hby2 S10.out).mono ?_
          rintro e w9 ⟨z, x, rfl, hF, hX, hS⟩
          have HFZ := Lib.hid hF
          have HFX := Lib.hid hX
          clear hF hX hby2
          clear f0 f1 f2 f3 f4 f5 f6 f7 f8 f9 f10
          have S11 := Lib.hid (show Sl.Sep w7 _ [Bag.bag z.rows] from hS)
          clear S10
          clear hS
          dsimp only [LS.v, LS.cells, Cu.v]
          go_upto_region 17 with fail
          have S12 := Lib.hid (show Sl.Sep w7 _ [Bag.bag z.rows, L4.boxR w9.heap.size 26 #[.string z.name, .slice z.a z.xs.length z.c, .int .i64 z.auto], L4.boxR (w9.heap.size + 1) 60 #[.bool x.r.hl, .bool x.r.hh, .int .i64 x.r.lo.kind, .int .i64 x.r.lo.n, .string x.r.lo.text, .int .i64 x.r.hi.kind, .int .i64 x.r.hi.n, .string x.r.hi.text, .bool x.back, .bool x.st, .int .i64 x.k.kind, .int .i64 x.k.n, .string x.k.text]] from L4.push_box (L4.push_box (S11.out) 26 #[.string z.name, .slice z.a z.xs.length z.c, .int .i64 z.auto] (w9.heap.size) (by simp)) 60 #[.bool x.r.hl, .bool x.r.hh, .int .i64 x.r.lo.kind, .int .i64 x.r.lo.n, .string x.r.lo.text, .int .i64 x.r.hi.kind, .int .i64 x.r.hi.n, .string x.r.hi.text, .bool x.back, .bool x.st, .int .i64 x.k.kind, .int .i64 x.k.n, .string x.k.text] (w9.heap.size + 1) (by simp))
          clear S11
          obtain ⟨g3, hg⟩ : ∃ g', g' = w9.heap.size := ⟨_, rfl⟩
          rw [← hg] at S12 ⊢
          clear hg
          obtain ⟨g4, hg⟩ : ∃ g', g' = g3 + 1 := ⟨_, rfl⟩
          (try rw [← hg] at S12); (try rw [← hg])
          clear hg
          obtain ⟨w8, hw⟩ : ∃ uu, uu = ((w9.alloc (.cells #[.string z.name, .slice z.a z.xs.length z.c, .int .i64 z.auto] 26)).alloc (.cells #[.bool x.r.hl, .bool x.r.hh, .int .i64 x.r.lo.kind, .int .i64 x.r.lo.n, .string x.r.lo.text, .int .i64 x.r.hi.kind, .int .i64 x.r.hi.n, .string x.r.hi.text, .bool x.back, .bool x.st, .int .i64 x.k.kind, .int .i64 x.k.n, .string x.k.text] 60)) := ⟨_, rfl⟩
          rw [← hw] at S12 ⊢
          clear hw
          replace HY := Lib.hid (fun w' (h : Below w8.heap.size w8 w') => (HY.out w' (S12.out.old.trans (h.mono S12.out.old.size))).more S12.out.old.size)
          replace HBS := Lib.hid (fun w' (h : Below w8.heap.size w8 w') => HBS.out w' (S12.out.old.trans (h.mono S12.out.old.size)))
          replace HBG := Lib.hid (fun w' (h : Below w8.heap.size w8 w') => HBG.out w' (S12.out.old.trans (h.mono S12.out.old.size)))
          have HZ := Lib.hid (fun w' (h : Below w8.heap.size w8 w') => (Bag.bag_rd S12.out 0 rfl).below h)
          have HB9 := Lib.hid (fun w' (h : Below w8.heap.size w8 w') => (show World.cell? w' ⟨g3, 0, none⟩ = some (.string z.name) ∧ World.cell? w' ⟨g3, 1, none⟩ = some (.slice z.a z.xs.length z.c) ∧ World.cell? w' ⟨g3, 2, none⟩ = some (.int .i64 z.auto) from ⟨later h (Bag.cell_at S12.out 1 rfl 0 rfl), later h (Bag.cell_at S12.out 1 rfl 1 rfl), later h (Bag.cell_at S12.out 1 rfl 2 rfl)⟩))
          have HC9 := Lib.hid (fun w' (h : Below w8.heap.size w8 w') => (show World.cell? w' ⟨g4, 0, none⟩ = some (.bool x.r.hl) ∧ World.cell? w' ⟨g4, 1, none⟩ = some (.bool x.r.hh) ∧ World.cell? w' ⟨g4, 2, none⟩ = some (.int .i64 x.r.lo.kind) ∧ World.cell? w' ⟨g4, 3, none⟩ = some (.int .i64 x.r.lo.n) ∧ World.cell? w' ⟨g4, 4, none⟩ = some (.string x.r.lo.text) ∧ World.cell? w' ⟨g4, 5, none⟩ = some (.int .i64 x.r.hi.kind) ∧ World.cell? w' ⟨g4, 6, none⟩ = some (.int .i64 x.r.hi.n) ∧ World.cell? w' ⟨g4, 7, none⟩ = some (.string x.r.hi.text) ∧ World.cell? w' ⟨g4, 8, none⟩ = some (.bool x.back) ∧ World.cell? w' ⟨g4, 9, none⟩ = some (.bool x.st) ∧ World.cell? w' ⟨g4, 10, none⟩ = some (.int .i64 x.k.kind) ∧ World.cell? w' ⟨g4, 11, none⟩ = some (.int .i64 x.k.n) ∧ World.cell? w' ⟨g4, 12, none⟩ = some (.string x.k.text) from ⟨later h (Bag.cell_at S12.out 2 rfl 0 rfl), later h (Bag.cell_at S12.out 2 rfl 1 rfl), later h (Bag.cell_at S12.out 2 rfl 2 rfl), later h (Bag.cell_at S12.out 2 rfl 3 rfl), later h (Bag.cell_at S12.out 2 rfl 4 rfl), later h (Bag.cell_at S12.out 2 rfl 5 rfl), later h (Bag.cell_at S12.out 2 rfl 6 rfl), later h (Bag.cell_at S12.out 2 rfl 7 rfl), later h (Bag.cell_at S12.out 2 rfl 8 rfl), later h (Bag.cell_at S12.out 2 rfl 9 rfl), later h (Bag.cell_at S12.out 2 rfl 10 rfl), later h (Bag.cell_at S12.out 2 rfl 11 rfl), later h (Bag.cell_at S12.out 2 rfl 12 rfl)⟩))
          replace HW := Lib.hid (HW.out.trans (S12.out.old.mono HW.out.size))
          have S13 := Lib.hid (Sl.Sep.start w8)
          clear S12
          obtain ⟨X, hX⟩ : ∃ u, curX x z.con.items = u := ⟨_, rfl⟩
          obtain ⟨I, hI⟩ : ∃ u, curI x z.con.items = u := ⟨_, rfl⟩
          obtain ⟨B, hB⟩ : ∃ u, curB x z.con.items = u := ⟨_, rfl⟩
          have HE := Lib.hid (And.intro hX (And.intro hI hB))
          clear hX hI hB
          have hh := HBS.out _ S13.out.old
          have f0 := hh.1; have f1 := hh.2.1; have f2 := hh.2.2; clear hh
          have hh := HBG.out _ S13.out.old
          have f3 := hh.1; have f4 := hh.2.1; have f5 := hh.2.2.1; have f6 := hh.2.2.2.1; have f7 := hh.2.2.2.2.1; have f8 := hh.2.2.2.2.2.1; have f9 := hh.2.2.2.2.2.2.1; have f10 := hh.2.2.2.2.2.2.2; clear hh
          have hh := HB9.out _ S13.out.old
          have f11 := hh.1; have f12 := hh.2.1; have f13 := hh.2.2; clear hh
          have hh := HC9.out _ S13.out.old
          have f14 := hh.1; have f15 := hh.2.1; have f16 := hh.2.2.1; have f17 := hh.2.2.2.1; have f18 := hh.2.2.2.2.1; have f19 := hh.2.2.2.2.2.1; have f20 := hh.2.2.2.2.2.2.1; have f21 := hh.2.2.2.2.2.2.2.1; have f22 := hh.2.2.2.2.2.2.2.2.1; have f23 := hh.2.2.2.2.2.2.2.2.2.1; have f24 := hh.2.2.2.2.2.2.2.2.2.2.1; have f25 := hh.2.2.2.2.2.2.2.2.2.2.2.1; have f26 := hh.2.2.2.2.2.2.2.2.2.2.2.2; clear hh
          have HC := cursorNext_any z x HFZ.out HFX.out _ ((HZ.out _ S13.out.old).more S13.out.old.size)
          rw [HE.out.1, HE.out.2.1, HE.out.2.2] at HC
          try dsimp only [LS.v, LS.cells, L4.K.v, L4.R.v, Cu.v] at HC
          go_wp2_with fail
          go_at_call 36
          refine HC.mono ?_
          clear HC
          rintro e w9 ⟨a1, c1, rfl, ho, hb⟩
          clear f0 f1 f2 f3 f4 f5 f6 f7 f8 f9 f10 f11 f12 f13 f14 f15 f16 f17 f18 f19 f20 f21 f22 f23 f24 f25 f26
          have S14 := Lib.hid (show Sl.Sep w8 _ [Bag.bag ([(LI.mk I.k a1 c1 I.l).row])] from Bag.push_bag S13.out hb ho)
          clear S13
          clear ho hb
          try dsimp only [LS.v, LS.cells, L4.K.v, L4.R.v, Cu.v]
          go_upto_region 18 with fail
          have S15 := Lib.hid (show Sl.Sep w8 _ [Bag.bag ([(LI.mk I.k a1 c1 I.l).row]), L4.boxR w9.heap.size 60 #[.bool X.r.hl, .bool X.r.hh, .int .i64 X.r.lo.kind, .int .i64 X.r.lo.n, .string X.r.lo.text, .int .i64 X.r.hi.kind, .int .i64 X.r.hi.n, .string X.r.hi.text, .bool X.back, .bool X.st, .int .i64 X.k.kind, .int .i64 X.k.n, .string X.k.text], L4.boxR (w9.heap.size + 1) 43 #[.int .i64 I.k.kind, .int .i64 I.k.n, .string I.k.text, .slice a1 I.l.length c1]] from L4.push_box (L4.push_box (S14.out) 60 #[.bool X.r.hl, .bool X.r.hh, .int .i64 X.r.lo.kind, .int .i64 X.r.lo.n, .string X.r.lo.text, .int .i64 X.r.hi.kind, .int .i64 X.r.hi.n, .string X.r.hi.text, .bool X.back, .bool X.st, .int .i64 X.k.kind, .int .i64 X.k.n, .string X.k.text] (w9.heap.size) (by simp)) 43 #[.int .i64 I.k.kind, .int .i64 I.k.n, .string I.k.text, .slice a1 I.l.length c1] (w9.heap.size + 1) (by simp))
          clear S14
          obtain ⟨g5, hg⟩ : ∃ g', g' = w9.heap.size := ⟨_, rfl⟩
          rw [← hg] at S15 ⊢
          clear hg
          obtain ⟨g6, hg⟩ : ∃ g', g' = g5 + 1 := ⟨_, rfl⟩
          (try rw [← hg] at S15); (try rw [← hg])
          clear hg
          obtain ⟨w10, hw⟩ : ∃ uu, uu = ((w9.alloc (.cells #[.bool X.r.hl, .bool X.r.hh, .int .i64 X.r.lo.kind, .int .i64 X.r.lo.n, .string X.r.lo.text, .int .i64 X.r.hi.kind, .int .i64 X.r.hi.n, .string X.r.hi.text, .bool X.back, .bool X.st, .int .i64 X.k.kind, .int .i64 X.k.n, .string X.k.text] 60)).alloc (.cells #[.int .i64 I.k.kind, .int .i64 I.k.n, .string I.k.text, .slice a1 I.l.length c1] 43)) := ⟨_, rfl⟩
          rw [← hw] at S15 ⊢
          clear hw
          have hh := Bag.cs13 S15.out 1 rfl
          have f0 := hh.1; have f1 := hh.2.1; have f2 := hh.2.2.1; have f3 := hh.2.2.2.1; have f4 := hh.2.2.2.2.1; have f5 := hh.2.2.2.2.2.1; have f6 := hh.2.2.2.2.2.2.1; have f7 := hh.2.2.2.2.2.2.2.1; have f8 := hh.2.2.2.2.2.2.2.2.1; have f9 := hh.2.2.2.2.2.2.2.2.2.1; have f10 := hh.2.2.2.2.2.2.2.2.2.2.1; have f11 := hh.2.2.2.2.2.2.2.2.2.2.2.1; have f12 := hh.2.2.2.2.2.2.2.2.2.2.2.2; clear hh
          have hh := Bag.cs4 S15.out 2 rfl
          have f13 := hh.1; have f14 := hh.2.1; have f15 := hh.2.2.1; have f16 := hh.2.2.2; clear hh
          have hh := HBS.out _ S15.out.old
          have f17 := hh.1; have f18 := hh.2.1; have f19 := hh.2.2; clear hh
          have hh := HBG.out _ S15.out.old
          have f20 := hh.1; have f21 := hh.2.1; have f22 := hh.2.2.1; have f23 := hh.2.2.2.1; have f24 := hh.2.2.2.2.1; have f25 := hh.2.2.2.2.2.1; have f26 := hh.2.2.2.2.2.2.1; have f27 := hh.2.2.2.2.2.2.2; clear hh
          have hh := HB9.out _ S15.out.old
          have f28 := hh.1; have f29 := hh.2.1; have f30 := hh.2.2; clear hh
          have hh := HC9.out _ S15.out.old
          have f31 := hh.1; have f32 := hh.2.1; have f33 := hh.2.2.1; have f34 := hh.2.2.2.1; have f35 := hh.2.2.2.2.1; have f36 := hh.2.2.2.2.2.1; have f37 := hh.2.2.2.2.2.2.1; have f38 := hh.2.2.2.2.2.2.2.1; have f39 := hh.2.2.2.2.2.2.2.2.1; have f40 := hh.2.2.2.2.2.2.2.2.2.1; have f41 := hh.2.2.2.2.2.2.2.2.2.2.1; have f42 := hh.2.2.2.2.2.2.2.2.2.2.2.1; have f43 := hh.2.2.2.2.2.2.2.2.2.2.2.2; clear hh
          have HC := specCursorNext_any z x HFZ.out HFX.out _ ((HZ.out _ S15.out.old).more S15.out.old.size)
          rw [HE.out.1, HE.out.2.1, HE.out.2.2] at HC
          try dsimp only [LS.v, LS.cells, L4.K.v, L4.R.v, Cu.v] at HC
          go_wp2_with fail
          go_at_call 37
          refine HC.mono ?_
          clear HC
          rintro e w11 ⟨a2, c2, rfl, ho, hb⟩
          clear f0 f1 f2 f3 f4 f5 f6 f7 f8 f9 f10 f11 f12 f13 f14 f15 f16 f17 f18 f19 f20 f21 f22 f23 f24 f25 f26 f27 f28 f29 f30 f31 f32 f33 f34 f35 f36 f37 f38 f39 f40 f41 f42 f43
          have S16 := Lib.hid (show Sl.Sep w8 _ [Bag.bag ([(LI.mk I.k a1 c1 I.l).row]), L4.boxR g5 60 #[.bool X.r.hl, .bool X.r.hh, .int .i64 X.r.lo.kind, .int .i64 X.r.lo.n, .string X.r.lo.text, .int .i64 X.r.hi.kind, .int .i64 X.r.hi.n, .string X.r.hi.text, .bool X.back, .bool X.st, .int .i64 X.k.kind, .int .i64 X.k.n, .string X.k.text], L4.boxR g6 43 #[.int .i64 I.k.kind, .int .i64 I.k.n, .string I.k.text, .slice a1 I.l.length c1], Bag.bag ([(LI.mk I.k a2 c2 I.l).row])] from Bag.push_bag S15.out hb ho)
          clear S15
          clear ho hb
          try dsimp only [LS.v, LS.cells, L4.K.v, L4.R.v, Cu.v]
          go_upto_region 19 with fail
          have S17 := Lib.hid (show Sl.Sep w8 _ [Bag.bag ([(LI.mk I.k a1 c1 I.l).row]), L4.boxR g5 60 #[.bool X.r.hl, .bool X.r.hh, .int .i64 X.r.lo.kind, .int .i64 X.r.lo.n, .string X.r.lo.text, .int .i64 X.r.hi.kind, .int .i64 X.r.hi.n, .string X.r.hi.text, .bool X.back, .bool X.st, .int .i64 X.k.kind, .int .i64 X.k.n, .string X.k.text], L4.boxR g6 43 #[.int .i64 I.k.kind, .int .i64 I.k.n, .string I.k.text, .slice a1 I.l.length c1], Bag.bag ([(LI.mk I.k a2 c2 I.l).row]), L4.boxR w11.heap.size 60 #[.bool X.r.hl, .bool X.r.hh, .int .i64 X.r.lo.kind, .int .i64 X.r.lo.n, .string X.r.lo.text, .int .i64 X.r.hi.kind, .int .i64 X.r.hi.n, .string X.r.hi.text, .bool X.back, .bool X.st, .int .i64 X.k.kind, .int .i64 X.k.n, .string X.k.text], L4.boxR (w11.heap.size + 1) 43 #[.int .i64 I.k.kind, .int .i64 I.k.n, .string I.k.text, .slice a2 I.l.length c2]] from L4.push_box (L4.push_box (S16.out) 60 #[.bool X.r.hl, .bool X.r.hh, .int .i64 X.r.lo.kind, .int .i64 X.r.lo.n, .string X.r.lo.text, .int .i64 X.r.hi.kind, .int .i64 X.r.hi.n, .string X.r.hi.text, .bool X.back, .bool X.st, .int .i64 X.k.kind, .int .i64 X.k.n, .string X.k.text] (w11.heap.size) (by simp)) 43 #[.int .i64 I.k.kind, .int .i64 I.k.n, .string I.k.text, .slice a2 I.l.length c2] (w11.heap.size + 1) (by simp))
          clear S16
          obtain ⟨g7, hg⟩ : ∃ g', g' = w11.heap.size := ⟨_, rfl⟩
          rw [← hg] at S17 ⊢
          clear hg
          obtain ⟨g8, hg⟩ : ∃ g', g' = g7 + 1 := ⟨_, rfl⟩
          (try rw [← hg] at S17); (try rw [← hg])
          clear hg
          obtain ⟨w12, hw⟩ : ∃ uu, uu = ((w11.alloc (.cells #[.bool X.r.hl, .bool X.r.hh, .int .i64 X.r.lo.kind, .int .i64 X.r.lo.n, .string X.r.lo.text, .int .i64 X.r.hi.kind, .int .i64 X.r.hi.n, .string X.r.hi.text, .bool X.back, .bool X.st, .int .i64 X.k.kind, .int .i64 X.k.n, .string X.k.text] 60)).alloc (.cells #[.int .i64 I.k.kind, .int .i64 I.k.n, .string I.k.text, .slice a2 I.l.length c2] 43)) := ⟨_, rfl⟩
          rw [← hw] at S17 ⊢
          clear hw
          have HEQ := fun w => key_self I.k w
          have HCQ := fun w => cur_self X w
          dsimp only [Cu.v] at HCQ
          have hh := Bag.cs13 S17.out 1 rfl
          have f0 := hh.1; have f1 := hh.2.1; have f2 := hh.2.2.1; have f3 := hh.2.2.2.1; have f4 := hh.2.2.2.2.1; have f5 := hh.2.2.2.2.2.1; have f6 := hh.2.2.2.2.2.2.1; have f7 := hh.2.2.2.2.2.2.2.1; have f8 := hh.2.2.2.2.2.2.2.2.1; have f9 := hh.2.2.2.2.2.2.2.2.2.1; have f10 := hh.2.2.2.2.2.2.2.2.2.2.1; have f11 := hh.2.2.2.2.2.2.2.2.2.2.2.1; have f12 := hh.2.2.2.2.2.2.2.2.2.2.2.2; clear hh
          have hh := Bag.cs4 S17.out 2 rfl
          have f13 := hh.1; have f14 := hh.2.1; have f15 := hh.2.2.1; have f16 := hh.2.2.2; clear hh
          have hh := Bag.cs13 S17.out 4 rfl
          have f17 := hh.1; have f18 := hh.2.1; have f19 := hh.2.2.1; have f20 := hh.2.2.2.1; have f21 := hh.2.2.2.2.1; have f22 := hh.2.2.2.2.2.1; have f23 := hh.2.2.2.2.2.2.1; have f24 := hh.2.2.2.2.2.2.2.1; have f25 := hh.2.2.2.2.2.2.2.2.1; have f26 := hh.2.2.2.2.2.2.2.2.2.1; have f27 := hh.2.2.2.2.2.2.2.2.2.2.1; have f28 := hh.2.2.2.2.2.2.2.2.2.2.2.1; have f29 := hh.2.2.2.2.2.2.2.2.2.2.2.2; clear hh
          have hh := Bag.cs4 S17.out 5 rfl
          have f30 := hh.1; have f31 := hh.2.1; have f32 := hh.2.2.1; have f33 := hh.2.2.2; clear hh
          have hh := HB9.out _ S17.out.old
          have f34 := hh.1; have f35 := hh.2.1; have f36 := hh.2.2; clear hh
          have hh := HC9.out _ S17.out.old
          have f37 := hh.1; have f38 := hh.2.1; have f39 := hh.2.2.1; have f40 := hh.2.2.2.1; have f41 := hh.2.2.2.2.1; have f42 := hh.2.2.2.2.2.1; have f43 := hh.2.2.2.2.2.2.1; have f44 := hh.2.2.2.2.2.2.2.1; have f45 := hh.2.2.2.2.2.2.2.2.1; have f46 := hh.2.2.2.2.2.2.2.2.2.1; have f47 := hh.2.2.2.2.2.2.2.2.2.2.1; have f48 := hh.2.2.2.2.2.2.2.2.2.2.2.1; have f49 := hh.2.2.2.2.2.2.2.2.2.2.2.2; clear hh
          go_wp2_with fail
          go_ret
          exact ⟨rfl, HW.out.trans (S17.out.old.mono HW.out.size)⟩

set_option maxRecDepth 100000 in
theorem lifted (os : Os) (started : os.Started) (H : Type) (enc : TypeId × Value → H) :
    ReturnsInHanded {} Try.checked os 5 .any (Rows.fnCursorsSpec.pre6 enc Try.prog Try.f5 Rows.fnCursorsRow.domain false) (Rows.fnCursorsSpec.post enc Try.prog Try.f5 false true false false) := by
  refine returnsInHanded_of_change_sized (C := Try.checked) own started (by kernel_rfl) Try.func5
    (ChangeSpec.witness6 (enc := enc) (C := Try.checked) false ⟨#[], #[.slice none 0 0], []⟩ 8 (by kernel_rfl) (by kernel_rfl) (by kernel_rfl) (by kernel_rfl)) ?_
  intro W base args ds gs before hval0 hW _ hsz0 _
  have hval : ∀ (j : Nat) t v, Try.f5.params[j]? = some t → args[j]? = some v → Value.okWide Try.prog W .any base t v := hval0
  have hW' := hW
  obtain ⟨p, q, hA0, hV, rfl, _, _⟩ := hW
  have hA : DataW.TrodAll enc Try.prog W 0 (fun _ => true) true Try.f5.params.toList args.toList ds p := hA0
  obtain ⟨rfl, rfl⟩ := trodVars_none hV
  have hlt : ∀ x ∈ p, x.block < W.heap.size := fun x hx => hW'.lt x (by simpa using hx)
  simp only [List.append_nil] at hW'
  have hw := walk H enc W base args ds p hval hA hlt hsz0
  have hA1 := hA
  clear hA0 hval0 hsz0 hval hlt
  rw [Try.params5] at hA
  obtain ⟨v0, vs0, d0, ds0, p0, q0, e0, rfl, rfl, h0, hr0⟩ := trodAll_cons hA
  obtain ⟨e1, rfl, rfl⟩ := trodAll_nil hr0
  refine hw.mono fun e W' ⟨he, hb⟩ => ?_
  subst he
  exact ⟨_, rfl, Frame.law_post (tb := 4) rfl hW' hA1 rfl rfl rfl laidOut (by kernel_rfl) (by kernel_rfl) Try.underlying4 hb⟩

theorem holds : Rows.FnCursorsSaid :=
  OpenClaim.holds_of_wide 5 Try.f5 rfl rfl rfl rfl rfl rfl rfl ⟨rfl, rfl, rfl, rfl, rfl⟩ rfl rfl rfl rfl rfl (by kernel_rfl) Try.func5 (by kernel_rfl)
    (of_decide_eq_true (by kernel_rfl)) (by unfold Func.isWrapper; first | (rw [if_pos (by decide +kernel)]; kernel_rfl) | (rw [if_neg (by decide +kernel)]; exact ⟨rfl, rfl⟩))
    (fun os started H enc _ => lifted os started H enc)

#print axioms holds
end Go.Proofs.Ytmnedjhfibmcnaa.lawFnCursors
