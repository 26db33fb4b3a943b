/-
  The law FnIndexes answers true for every argument, and leaves its arguments as they were. No condition.
  (The frame is written by my program mk_law.py.)
-/
import Derived.Test.YtmnedjhfibmcnaaFnIndexesP5
import Derived.SizedLaws
import Derived.LaidLaws
import Derived.ShutString
import Derived.Stop.LaidErr
import Derived.Lib.LaidTab
set_option linter.unusedSimpArgs false
namespace Go.Proofs.Ytmnedjhfibmcnaa.lawFnIndexes
open Go.ChangeShapes Go.WideShapes Go.ChangeAt Go.RowKit
open Go.ChangeMaps (open_string shut_string)
set_option linter.unusedVariables false
theorem own : ownKnob Try.prog.godebug = none := by kernel_rfl
theorem laidOut : laidOutB Try.prog = true := by kernel_rfl
open Mem Sl Ex Sd L2 Sv Bag
open L4 (K isK cmpK R inR encU)
open L5 (F isR isN cellsF encR eqR Small Tame)
open L6
open L7
open L5 (getN getB)
theorem later {w w' : World} {a : Addr} {v : Value} (h : Below w.heap.size w w') (hc : w.cell? a = some v) : w'.cell? a = some v := by
  rw [h.cell (World.block_lt_of_cell? w a hc)]
  exact hc
theorem key_self (k : K) (w : World) : (Op.equalIn 10000 28 (.agg #[.int .i64 k.kind, .int .i64 k.n, .string k.text]) (.agg #[.int .i64 k.kind, .int .i64 k.n, .string k.text])).run Try.prog w = .ok true w := by
  rw [key_eq, eqK_refl]
def xs7 (a : Option Addr) (c : Nat) (ys : List LI) : LS := ⟨⟨#[]⟩, a, c, ys, 0⟩
theorem rd7 {w : World} {B : Nat} {a : Option Addr} {c : Nat} {ys : List LI} (h : RowsRd w B (rowI a c ys :: rowsI ys)) : Reads w B a (cellsI ys) := LS.outer (s := xs7 a c ys) h
theorem in7 {w : World} {B : Nat} {a : Option Addr} {c : Nat} {ys : List LI} (h : RowsRd w B (rowI a c ys :: rowsI ys)) : RowsRd w B (rowsI ys) := LS.inner (s := xs7 a c ys) h
def twice (t : List UInt8) (l : List It) (k : Nat) : Bool := (List.range (k - 1)).any (adj7 t l)
theorem twice_next (t : List UInt8) (l : List It) (j : Nat) : twice t l (j + 2) = (twice t l (j + 1) || adj7 t l j) := by
  unfold twice
  rw [show j + 2 - 1 = (j + 1 - 1) + 1 by omega, List.range_succ, List.any_append, show j + 1 - 1 = j by omega]
  simp
theorem twice_all (t : List UInt8) (l : List It) : twice t l l.length = ufB t l := by
  unfold twice ufB ufO
  cases h : (List.range (l.length - 1)).find? (adj7 t l) with
  | none =>
    rw [List.find?_eq_none] at h
    rw [show (none : Option Nat).isSome = false from rfl, List.any_eq_false]
    exact h
  | some i =>
    rw [show (some i).isSome = true from rfl, List.any_eq_true]
    exact ⟨i, List.mem_of_find?_eq_some h, List.find?_some h⟩
theorem pair_at {α : Type} {R : α → α → Prop} {l : List α} (h : l.Pairwise R) {j : Nat} {a b : α} (ha : l[j]? = some a) (hb : l[j + 1]? = some b) : R a b := by
  obtain ⟨h1, rfl⟩ := List.getElem?_eq_some_iff.1 ha
  obtain ⟨h2, rfl⟩ := List.getElem?_eq_some_iff.1 hb
  exact List.pairwise_iff_getElem.1 h j (j + 1) h1 h2 (by omega)
theorem isS_items {s : S6} (h : isS s = true) : isI s.items = true := by
  unfold isS at h
  simp only [Bool.and_eq_true] at h
  exact h.1

theorem eqR_self (l : List L5.F) : L5.eqR l l = true := L5.eqR_iff.2 rfl
set_option maxRecDepth 100000 in
set_option maxHeartbeats 8000000 in
theorem walk (H : Type) (enc : TypeId × Value → H) (W : World) (base : Nat) (args : Array Value) (ds : List (DataW H)) (p : List MemPlace)
    (hval : ∀ (j : Nat) t v, Try.f4.params[j]? = some t → args[j]? = some v → Value.okWide Try.prog W .any base t v)
    (hA : DataW.TrodAll enc Try.prog W 0 (fun _ => true) true Try.f4.params.toList args.toList ds p)
    (hlt : ∀ x ∈ p, x.block < W.heap.size)
    (hsz : (DataW.weightsEach Try.prog (Try.f4.params.toList ++ Rows.fnIndexesSpec.plain.varTypes Try.prog) (ds ++ [])).all (· ≤ reachBytes) = true) :
    Calls Try.prog 4 args W fun e w' => e = .returned (.bool true) ∧ Below W.heap.size W w' := by
  rw [Try.params4] at hA hval hsz
  obtain ⟨v0, d0, rfl, rfl, h0⟩ := trodAll_one hA
  obtain ⟨a0, l0, c0, rfl, hC0, -, hR0, hW0⟩ := Law.open_list Try.underlying22 Try.underlying5 (by kernel_rfl) (hval 0 22 v0 rfl rfl) h0 hlt
  have hby : Mem.Bytes W W.heap.size a0 l0.length := fun j hj => by
    obtain ⟨ad, he, hb, hc⟩ := hR0.int j hj
    have := Law.wf_u8 (hW0 l0[j] (List.getElem_mem hj))
    exact ⟨ad, _, he, hb, hc, this.1, this.2⟩
  obtain ⟨n0, hn0⟩ : ∃ n, n = l0.length := ⟨_, rfl⟩
  rw [← hn0] at hby hC0 ⊢
  clear hn0 hR0 hW0 hA hval hlt hsz h0
  have S0 := Sl.Sep.start W
  by_cases hbig : n0 > 1048576
  · go_enter Try.func4, Try.ntmps4
    go_wp2_with (go_at_call 13; refine (big_s _ S0).mono ?_; rw [decide_eq_true hbig]; rintro e w1 ⟨rfl, S1⟩)
    go_ret
    exact ⟨rfl, S1.old⟩
  · have hsm : n0 ≤ 4611686018427387904 := by omega
    go_enter Try.func4, Try.ntmps4
    go_wp2_with fail
    go_at_call 13
    refine (big_s _ S0).mono ?_
    rw [decide_eq_false hbig]
    rintro e w1 ⟨rfl, S1⟩
    clear S0 l0
    go_wp2_with fail
    go_at_call 24
    refine (drawIndexOn_q _ hsm hby S1).mono ?_
    rintro e w2 ⟨y, f, rfl, hF, hf5, hS⟩
    have HFY := Lib.hid hF
    clear hF hf5 S1 hsm hby
    have S2 := Lib.hid (show Sl.Sep W _ [Bag.bag y.rows] from hS)
    clear hS
    dsimp only [LS.v, LS.cells]
    go_upto_region 4 with fail
    have S3 := Lib.hid (show Sl.Sep W _ [Bag.bag y.rows, L4.boxR w2.heap.size 26 #[.string y.name, .slice y.a y.xs.length y.c, .int .i64 y.auto]] from L4.push_box (S2.out) 26 #[.string y.name, .slice y.a y.xs.length y.c, .int .i64 y.auto] (w2.heap.size) (by simp))
    clear S2
    obtain ⟨g1, hg⟩ : ∃ g', g' = w2.heap.size := ⟨_, rfl⟩
    rw [← hg] at S3 ⊢
    clear hg
    obtain ⟨w3, hw⟩ : ∃ uu, uu = (w2.alloc (.cells #[.string y.name, .slice y.a y.xs.length y.c, .int .i64 y.auto] 26)) := ⟨_, rfl⟩
    rw [← hw] at S3 ⊢
    clear hw
    have hh := Bag.cs3 S3.out 1 rfl
    have f0 := hh.1; have f1 := hh.2.1; have f2 := hh.2.2; clear hh
    have HC := indexOn_any y f HFY.out _ (Bag.bag_rd S3.out 0 rfl)
    try dsimp only [LS.v, LS.cells, L4.K.v, L4.R.v, Cu.v] at HC
    go_wp2_with fail
    go_at_call 25
    refine HC.mono ?_
    clear HC
    rintro e w4 ⟨la, lc, ys, rfl, hys, ho, hb⟩
    clear f0 f1 f2
    have S4 := Lib.hid (show Sl.Sep W _ [Bag.bag y.rows, L4.boxR g1 26 #[.string y.name, .slice y.a y.xs.length y.c, .int .i64 y.auto], Bag.bag (rowI la lc ys :: rowsI ys)] from Bag.push_bag S3.out hb ho)
    clear S3
    clear ho hb
    try dsimp only [LS.v, LS.cells, L4.K.v, L4.R.v, Cu.v]
    have HYS := Lib.hid hys
    clear hys
    have HY := Lib.hid (fun w' (h : Below w4.heap.size w4 w') => (Bag.bag_rd S4.out 0 rfl).below h)
    have HBS := Lib.hid (fun w' (h : Below w4.heap.size w4 w') => (show World.cell? w' ⟨g1, 0, none⟩ = some (.string y.name) ∧ World.cell? w' ⟨g1, 1, none⟩ = some (.slice y.a y.xs.length y.c) ∧ World.cell? w' ⟨g1, 2, none⟩ = some (.int .i64 y.auto) from ⟨later h (Bag.cell_at S4.out 1 rfl 0 rfl), later h (Bag.cell_at S4.out 1 rfl 1 rfl), later h (Bag.cell_at S4.out 1 rfl 2 rfl)⟩))
    have HLR := Lib.hid (fun w' (h : Below w4.heap.size w4 w') => (Bag.bag_rd S4.out 2 rfl).below h)
    have HW := Lib.hid S4.out.old
    have S5 := Lib.hid (Sl.Sep.start w4)
    clear S4
    obtain ⟨N, hN⟩ : ∃ N, N = ys.length := ⟨_, rfl⟩
    have HN := Lib.hid hN
    have hNl : N ≤ 1048576 := by have h := idxI_len y.con.items f.data.toList; have h2 := HFY.out.len; rw [← HYS.out, conI_length] at h; omega
    rw [← hN]
    clear hN
    have HNU := Lib.hid (idxI_nums y.con.items f.data.toList)
    rw [← HYS.out] at HNU
    go_wp2_with fail
    go_loopw [6, 7] (fun v i wr => ∃ (k : Nat) (b : Bool), k ≤ N ∧ i = .int .i64 k ∧ v = .bool b ∧ Hid (b = twice f.data.toList (conI ys) k ∧ Sl.Sep w4 wr [])) (fun _ i _ => N - (intOf i).toNat)
    case atStart => exact ⟨0, false, Nat.zero_le _, rfl, rfl, And.intro rfl S5.out⟩
    case round =>
      obtain ⟨k, b, hk, rfl, rfl, hrel⟩ := hrel
      have HTW := Lib.hid hrel.out.1
      have S6 := Lib.hid hrel.out.2
      clear hrel S5
      by_cases hlt : (k : Int) < (N : Int)
      · skip
        have hkl : k < ys.length := by have := HN.out; omega
        obtain ⟨ad, x', e', hx⟩ := readsI_some (rd7 (HLR.out _ S6.out.old)) k hkl
        have e'' : la = some ad := e'
        subst e''
        clear e'
        obtain ⟨⟨kd, n, t⟩, ia, ic, l⟩ := x'
        have HK1 := Lib.hid (fun w' (h : Below w4.heap.size w4 w') => readsI_at (rd7 (HLR.out _ h)) k _ hx)
        try dsimp only at HK1
        have HI1 := Lib.hid (fun w' (h : Below w4.heap.size w4 w') => ((in7 (HLR.out _ h)).at_ (rowsI_mem hx)).reads)
        have HC1 := Lib.hid (show (conI ys)[k]? = some (⟨⟨kd, n, t⟩, l⟩ : It) from con_of hx)
        have HM1 := Lib.hid (show (⟨⟨kd, n, t⟩, l⟩ : It) ∈ idxI y.con.items f.data.toList from by rw [← HYS.out]; exact List.mem_of_getElem? HC1.out)
        have HF1 := Lib.hid (HFY.out.items _ (idxI_mem _ HM1.out).1)
        obtain ⟨na, hna⟩ : ∃ u, getN l f.data.toList = u := ⟨_, rfl⟩
        have HNA := Lib.hid hna
        have HGB := Lib.hid (show getB l f.data.toList = true from (idxI_mem _ HM1.out).2)
        obtain ⟨M, hM⟩ : ∃ M, (withI y.con.items f.data.toList na).length = M := ⟨_, rfl⟩
        have hM1 : 1 ≤ M := by rw [← hM, ← hna]; exact withI_pos HM1.out
        have hMl : M ≤ 1048576 := by rw [← hM]; exact Nat.le_trans (withI_len _ _ _) HFY.out.len
        have HMM := Lib.hid hM
        clear hM hna hx
        have hh := HBS.out _ S6.out.old
        have f0 := hh.1; have f1 := hh.2.1; have f2 := hh.2.2; clear hh
        have hh := HK1.out _ S6.out.old
        have f3 := hh.1; have f4 := hh.2.1; have f5 := hh.2.2.1; have f6 := hh.2.2.2; clear hh
        have HC := L5.specGetField_any ia ic l f (by have : l.length ≤ 1048576 := HF1.out.len; omega) _ ((HI1.out _ S6.out.old).more S6.out.old.size)
        rw [HNA.out, HGB.out] at HC
        try dsimp only [LS.v, LS.cells, L4.K.v, L4.R.v, Cu.v] at HC
        go_wp2_with fail
        go_at_call 26
        refine HC.mono ?_
        clear HC
        rintro e w5 ⟨rfl, hb⟩
        clear f0 f1 f2 f3 f4 f5 f6
        have S7 := Lib.hid (S6.out.keep hb)
        clear S6
        clear hb
        try dsimp only [LS.v, LS.cells, L4.K.v, L4.R.v, Cu.v]
        cases b with
        | false =>
          by_cases hk0 : k = 0
          · subst hk0
            have hh := HBS.out _ S7.out.old
            have f0 := hh.1; have f1 := hh.2.1; have f2 := hh.2.2; clear hh
            have hh := HK1.out _ S7.out.old
            have f3 := hh.1; have f4 := hh.2.1; have f5 := hh.2.2.1; have f6 := hh.2.2.2; clear hh
            have HC := countWith_any y f na HFY.out _ ((HY.out _ S7.out.old).more S7.out.old.size)
            rw [HMM.out] at HC
            try dsimp only [LS.v, LS.cells, L4.K.v, L4.R.v, Cu.v] at HC
            go_wp2_with fail
            go_at_call 28
            refine HC.mono ?_
            clear HC
            rintro e w6 ⟨rfl, hb⟩
            clear f0 f1 f2 f3 f4 f5 f6
            have S8 := Lib.hid (S7.out.keep hb)
            clear S7
            clear hb
            try dsimp only [LS.v, LS.cells, L4.K.v, L4.R.v, Cu.v]
            have hm0 : ¬ (M : Int) < 1 := by omega
            have hh := HBS.out _ S8.out.old
            have f0 := hh.1; have f1 := hh.2.1; have f2 := hh.2.2; clear hh
            have hh := HK1.out _ S8.out.old
            have f3 := hh.1; have f4 := hh.2.1; have f5 := hh.2.2.1; have f6 := hh.2.2.2; clear hh
            go_wp2_with fail
            clear f0 f1 f2 f3 f4 f5 f6
            have hh := HBS.out _ S8.out.old
            have f0 := hh.1; have f1 := hh.2.1; have f2 := hh.2.2; clear hh
            have hh := HK1.out _ S8.out.old
            have f3 := hh.1; have f4 := hh.2.1; have f5 := hh.2.2.1; have f6 := hh.2.2.2; clear hh
            have HC := itemsWith_any y f na HFY.out _ ((HY.out _ S8.out.old).more S8.out.old.size)
            try dsimp only [LS.v, LS.cells, L4.K.v, L4.R.v, Cu.v] at HC
            go_at_call 29
            refine HC.mono ?_
            clear HC
            rintro e w7 ⟨la2, lc2, zs, rfl, hzs, ho, hb⟩
            clear f0 f1 f2 f3 f4 f5 f6
            have S9 := Lib.hid (show Sl.Sep w4 _ [Bag.bag (rowI la2 lc2 zs :: rowsI zs)] from Bag.push_bag S8.out hb ho)
            clear S8
            clear ho hb
            try dsimp only [LS.v, LS.cells, L4.K.v, L4.R.v, Cu.v]
            have hzl : zs.length = M := by have h := congrArg List.length hzs; rw [conI_length, HMM.out] at h; exact h
            clear hzs
            rw [hzl]
            have S10 := Lib.hid (show Sl.Sep w4 _ [] from Bag.take S9.out [] (by rfl) (by decide))
            clear S9
            go_wp2_with fail
            go_roundw
            case rel => exact ⟨0 + 1, false, by omega, by go_num, by first | rfl | simp, And.intro (by rw [HTW.out]; rfl) S10.out⟩
            case measure => simp [intOf]; omega
          · skip
            obtain ⟨j, rfl⟩ : ∃ j, k = j + 1 := ⟨k - 1, by omega⟩
            have hjl : j < ys.length := by omega
            obtain ⟨ad_, x2, e_, hx2⟩ := readsI_some (rd7 (HLR.out _ S7.out.old)) j hjl
            clear ad_ e_
            obtain ⟨⟨kd2, n2, t2⟩, ia2, ic2, l2⟩ := x2
            have HK2 := Lib.hid (fun w' (h : Below w4.heap.size w4 w') => readsI_at (rd7 (HLR.out _ h)) j _ hx2)
            try dsimp only at HK2
            have HI2 := Lib.hid (fun w' (h : Below w4.heap.size w4 w') => ((in7 (HLR.out _ h)).at_ (rowsI_mem hx2)).reads)
            have HC2 := Lib.hid (show (conI ys)[j]? = some (⟨⟨kd2, n2, t2⟩, l2⟩ : It) from con_of hx2)
            have HM2 := Lib.hid (show (⟨⟨kd2, n2, t2⟩, l2⟩ : It) ∈ idxI y.con.items f.data.toList from by rw [← HYS.out]; exact List.mem_of_getElem? HC2.out)
            have HF2 := Lib.hid (HFY.out.items _ (idxI_mem _ HM2.out).1)
            obtain ⟨nb, hnb⟩ : ∃ u, getN l2 f.data.toList = u := ⟨_, rfl⟩
            have HNB := Lib.hid hnb
            have HGB2 := Lib.hid (show getB l2 f.data.toList = true from (idxI_mem _ HM2.out).2)
            have hle : nb ≤ na := by have h := pair_at HNU.out HC2.out HC1.out; dsimp only at h; rw [HNA.out, hnb] at h; exact h
            have hgt : ¬ nb > na := by omega
            have HAD := Lib.hid (show adj7 f.data.toList (conI ys) j = (nb == na) from by rw [adj_at HC2.out HC1.out]; dsimp only; rw [hnb, HNA.out])
            clear hnb hx2
            have hsub : ((j + 1 : Nat) : Int) - 1 = (j : Int) := by omega
            have hi0 : 0 < ((j + 1 : Nat) : Int) := by omega
            have hjN : (j : Int) < (N : Int) := by omega
            have hjN1 : (j : Int) + 1 < (N : Int) := by omega
            have hj10 : (0 : Int) ≤ (j : Int) + 1 := by omega
            have hwr : IntKind.i64.wrap (j : Int) = (j : Int) := IntWalk.i64_in _ ⟨by omega, by omega⟩
            have hh := HBS.out _ S7.out.old
            have f0 := hh.1; have f1 := hh.2.1; have f2 := hh.2.2; clear hh
            have hh := HK1.out _ S7.out.old
            have f3 := hh.1; have f4 := hh.2.1; have f5 := hh.2.2.1; have f6 := hh.2.2.2; clear hh
            have hh := HK2.out _ S7.out.old
            have f7 := hh.1; have f8 := hh.2.1; have f9 := hh.2.2.1; have f10 := hh.2.2.2; clear hh
            have HC := L5.specGetField_any ia2 ic2 l2 f (by have : l2.length ≤ 1048576 := HF2.out.len; omega) _ ((HI2.out _ S7.out.old).more S7.out.old.size)
            rw [HNB.out, HGB2.out] at HC
            try dsimp only [LS.v, LS.cells, L4.K.v, L4.R.v, Cu.v] at HC
            go_wp2_with fail
            go_at_call 26
            refine HC.mono ?_
            clear HC
            rintro e w6 ⟨rfl, hb⟩
            clear f0 f1 f2 f3 f4 f5 f6 f7 f8 f9 f10
            have S8 := Lib.hid (S7.out.keep hb)
            clear S7
            clear hb
            try dsimp only [LS.v, LS.cells, L4.K.v, L4.R.v, Cu.v]
            by_cases he : nb = na
            · subst he
              have HEQ7 := Lib.hid (show adj7 f.data.toList (conI ys) j = true from by rw [HAD.out]; simp)
              cases hv : isS y.con with
              | false =>
                have HV := Lib.hid hv
                clear hv
                go_upto_region 14 with fail
                refine wp_region_held_drew (S := (fun w' => (World.cell? w' (⟨g1, 0, none⟩) = some (.string y.name) ∧ World.cell? w' (⟨g1, 1, none⟩) = some (.slice y.a y.xs.length y.c) ∧ World.cell? w' (⟨g1, 2, none⟩) = some (.int .i64 y.auto)) ∧ (World.cell? w' (ad.add ((j + 1) * 4)) = some (.int .i64 kd) ∧ World.cell? w' (⟨(ad.add ((j + 1) * 4)).block, (ad.add ((j + 1) * 4)).off + 1, none⟩) = some (.int .i64 n) ∧ World.cell? w' (⟨(ad.add ((j + 1) * 4)).block, (ad.add ((j + 1) * 4)).off + 2, none⟩) = some (.string t) ∧ World.cell? w' (⟨(ad.add ((j + 1) * 4)).block, (ad.add ((j + 1) * 4)).off + 3, none⟩) = some (.slice ia l.length ic)) ∧ (World.cell? w' (ad.add (j * 4)) = some (.int .i64 kd2) ∧ World.cell? w' (⟨(ad.add (j * 4)).block, (ad.add (j * 4)).off + 1, none⟩) = some (.int .i64 n2) ∧ World.cell? w' (⟨(ad.add (j * 4)).block, (ad.add (j * 4)).off + 2, none⟩) = some (.string t2) ∧ World.cell? w' (⟨(ad.add (j * 4)).block, (ad.add (j * 4)).off + 3, none⟩) = some (.slice ia2 l2.length ic2)))) (by kernel_rfl) ⟨HBS.out _ (Bag.drew1 S8.out).old, HK1.out _ (Bag.drew1 S8.out).old, HK2.out _ (Bag.drew1 S8.out).old⟩ (fun hS => ?_)
                have S9 := Lib.hid (show Sl.Sep w4 _ [] from Bag.drew1 S8.out)
                clear S8
                generalize World.drew _ = w7 at hS S9 ⊢
                refine tk 0 rfl ?_
                try simp only [zp0, zp1, zp2, zp3, zp4]
                refine tk 1 rfl ?_
                try simp only [zp0, zp1, zp2, zp3, zp4]
                refine tk 2 rfl ?_
                try simp only [zp0, zp1, zp2, zp3, zp4]
                refine tk 3 rfl ?_
                try simp only [zp0, zp1, zp2, zp3, zp4]
                refine tk 4 rfl ?_
                try simp only [zp0, zp1, zp2, zp3, zp4]
                refine tk 5 rfl ?_
                try simp only [zp0, zp1, zp2, zp3, zp4]
                refine tk 6 rfl ?_
                try simp only [zp0, zp1, zp2, zp3, zp4]
                refine tk 7 rfl ?_
                try simp only [zp0, zp1, zp2, zp3, zp4]
                refine tk 8 rfl ?_
                try simp only [zp0, zp1, zp2, zp3, zp4]
                refine Reg.one_op (i := 9) rfl (by kernel_rfl) (fun K hK => ?_)
                go_simp
                have HC := specIsStore_any y HFY.out _ ((HY.out _ S9.out.old).more S9.out.old.size)
                rw [HV.out] at HC
                try dsimp only [LS.v, LS.cells, L4.K.v, L4.R.v, Cu.v] at HC
                go_at_call 17
                refine HC.mono ?_
                clear HC
                rintro e w8 ⟨rfl, hb⟩
                have S10 := Lib.hid (S9.out.keep hb)
                clear S9
                clear hb
                try dsimp only [LS.v, LS.cells, L4.K.v, L4.R.v, Cu.v]
                go_wp2_with fail
                refine hK.out _ _ ⟨HBS.out _ S10.out.old, HK1.out _ S10.out.old, HK2.out _ S10.out.old⟩ (fun hS => ?_)
                clear hK K
                try simp only [zp0, zp1, zp2, zp3, zp4]
                refine tk 10 rfl ?_
                try simp only [zp0, zp1, zp2, zp3, zp4]
                refine tk 11 rfl ?_
                try simp only [zp0, zp1, zp2, zp3, zp4]
                refine sk 12 rfl ?_
                try simp only [zp0, zp1, zp2, zp3, zp4]
                refine sk 13 rfl ?_
                try simp only [zp0, zp1, zp2, zp3, zp4]
                refine sk 14 rfl ?_
                try simp only [zp0, zp1, zp2, zp3, zp4]
                refine sk 15 rfl ?_
                try simp only [zp0, zp1, zp2, zp3, zp4]
                refine sk 16 rfl ?_
                try simp only [zp0, zp1, zp2, zp3, zp4]
                refine sk 17 rfl ?_
                try simp only [zp0, zp1, zp2, zp3, zp4]
                refine sk 18 rfl ?_
                try simp only [zp0, zp1, zp2, zp3, zp4]
                refine sk 19 rfl ?_
                try simp only [zp0, zp1, zp2, zp3, zp4]
                refine sk 20 rfl ?_
                try simp only [zp0, zp1, zp2, zp3, zp4]
                refine sk 21 rfl ?_
                try simp only [zp0, zp1, zp2, zp3, zp4]
                refine sk 22 rfl ?_
                try simp only [zp0, zp1, zp2, zp3, zp4]
                refine Reg.skip_one (i := 23) rfl (by kernel_rfl) (by rfl) (by assumption) ?_
                try simp only [zp0, zp1, zp2, zp3, zp4]
                refine sk 24 rfl ?_
                try simp only [zp0, zp1, zp2, zp3, zp4]
                refine tk 25 rfl ?_
                try simp only [zp0, zp1, zp2, zp3, zp4]
                refine tk 26 rfl ?_
                try simp only [zp0, zp1, zp2, zp3, zp4]
                refine wpAnyH_done (by kernel_rfl) ?_ _
                have hh := HBS.out _ S10.out.old
                have f0 := hh.1; have f1 := hh.2.1; have f2 := hh.2.2; clear hh
                have hh := HK1.out _ S10.out.old
                have f3 := hh.1; have f4 := hh.2.1; have f5 := hh.2.2.1; have f6 := hh.2.2.2; clear hh
                have hh := HK2.out _ S10.out.old
                have f7 := hh.1; have f8 := hh.2.1; have f9 := hh.2.2.1; have f10 := hh.2.2.2; clear hh
                clear f0 f1 f2 f3 f4 f5 f6 f7 f8 f9 f10
                have hh := HBS.out _ S10.out.old
                have f0 := hh.1; have f1 := hh.2.1; have f2 := hh.2.2; clear hh
                have hh := HK1.out _ S10.out.old
                have f3 := hh.1; have f4 := hh.2.1; have f5 := hh.2.2.1; have f6 := hh.2.2.2; clear hh
                have hh := HK2.out _ S10.out.old
                have f7 := hh.1; have f8 := hh.2.1; have f9 := hh.2.2.1; have f10 := hh.2.2.2; clear hh
                go_upto_region 17 with fail
                clear f0 f1 f2 f3 f4 f5 f6 f7 f8 f9 f10
                have hh := HBS.out _ S10.out.old
                have f0 := hh.1; have f1 := hh.2.1; have f2 := hh.2.2; clear hh
                have hh := HK1.out _ S10.out.old
                have f3 := hh.1; have f4 := hh.2.1; have f5 := hh.2.2.1; have f6 := hh.2.2.2; clear hh
                have HC := countWith_any y f nb HFY.out _ ((HY.out _ S10.out.old).more S10.out.old.size)
                rw [HMM.out] at HC
                try dsimp only [LS.v, LS.cells, L4.K.v, L4.R.v, Cu.v] at HC
                go_wp2_with fail
                go_at_call 28
                refine HC.mono ?_
                clear HC
                rintro e w9 ⟨rfl, hb⟩
                clear f0 f1 f2 f3 f4 f5 f6
                have S11 := Lib.hid (S10.out.keep hb)
                clear S10
                clear hb
                try dsimp only [LS.v, LS.cells, L4.K.v, L4.R.v, Cu.v]
                have hm0 : ¬ (M : Int) < 1 := by omega
                have hh := HBS.out _ S11.out.old
                have f0 := hh.1; have f1 := hh.2.1; have f2 := hh.2.2; clear hh
                have hh := HK1.out _ S11.out.old
                have f3 := hh.1; have f4 := hh.2.1; have f5 := hh.2.2.1; have f6 := hh.2.2.2; clear hh
                go_wp2_with fail
                clear f0 f1 f2 f3 f4 f5 f6
                have hh := HBS.out _ S11.out.old
                have f0 := hh.1; have f1 := hh.2.1; have f2 := hh.2.2; clear hh
                have hh := HK1.out _ S11.out.old
                have f3 := hh.1; have f4 := hh.2.1; have f5 := hh.2.2.1; have f6 := hh.2.2.2; clear hh
                have HC := itemsWith_any y f nb HFY.out _ ((HY.out _ S11.out.old).more S11.out.old.size)
                try dsimp only [LS.v, LS.cells, L4.K.v, L4.R.v, Cu.v] at HC
                go_at_call 29
                refine HC.mono ?_
                clear HC
                rintro e w10 ⟨la2, lc2, zs, rfl, hzs, ho, hb⟩
                clear f0 f1 f2 f3 f4 f5 f6
                have S12 := Lib.hid (show Sl.Sep w4 _ [Bag.bag (rowI la2 lc2 zs :: rowsI zs)] from Bag.push_bag S11.out hb ho)
                clear S11
                clear ho hb
                try dsimp only [LS.v, LS.cells, L4.K.v, L4.R.v, Cu.v]
                have hzl : zs.length = M := by have h := congrArg List.length hzs; rw [conI_length, HMM.out] at h; exact h
                clear hzs
                rw [hzl]
                have S13 := Lib.hid (show Sl.Sep w4 _ [] from Bag.take S12.out [] (by rfl) (by decide))
                clear S12
                go_wp2_with fail
                go_roundw
                case rel => exact ⟨j + 1 + 1, true, by omega, by go_num, by first | rfl | simp, And.intro (by rw [show j + 1 + 1 = j + 2 from rfl, twice_next, HEQ7.out, Bool.or_true]) S13.out⟩
                case measure => simp [intOf]; omega
              | true =>
                have HV := Lib.hid hv
                clear hv
                obtain ⟨m, hm⟩ : ∃ m, cmpK ⟨kd2, n2, t2⟩ ⟨kd, n, t⟩ = m := ⟨_, rfl⟩
                have HCM := Lib.hid hm
                have hmn : ¬ (0 : Int) ≤ m := by have h := pair_at (by have h := idxI_keys (isS_items HV.out) f.data.toList; rw [← HYS.out] at h; exact h) HC2.out HC1.out; unfold lt7 at h; rw [← hm]; dsimp only at h; rw [HNB.out, HNA.out] at h; omega
                clear hm
                go_upto_region 14 with fail
                refine wp_region_held_drew (S := (fun w' => (World.cell? w' (⟨g1, 0, none⟩) = some (.string y.name) ∧ World.cell? w' (⟨g1, 1, none⟩) = some (.slice y.a y.xs.length y.c) ∧ World.cell? w' (⟨g1, 2, none⟩) = some (.int .i64 y.auto)) ∧ (World.cell? w' (ad.add ((j + 1) * 4)) = some (.int .i64 kd) ∧ World.cell? w' (⟨(ad.add ((j + 1) * 4)).block, (ad.add ((j + 1) * 4)).off + 1, none⟩) = some (.int .i64 n) ∧ World.cell? w' (⟨(ad.add ((j + 1) * 4)).block, (ad.add ((j + 1) * 4)).off + 2, none⟩) = some (.string t) ∧ World.cell? w' (⟨(ad.add ((j + 1) * 4)).block, (ad.add ((j + 1) * 4)).off + 3, none⟩) = some (.slice ia l.length ic)) ∧ (World.cell? w' (ad.add (j * 4)) = some (.int .i64 kd2) ∧ World.cell? w' (⟨(ad.add (j * 4)).block, (ad.add (j * 4)).off + 1, none⟩) = some (.int .i64 n2) ∧ World.cell? w' (⟨(ad.add (j * 4)).block, (ad.add (j * 4)).off + 2, none⟩) = some (.string t2) ∧ World.cell? w' (⟨(ad.add (j * 4)).block, (ad.add (j * 4)).off + 3, none⟩) = some (.slice ia2 l2.length ic2)))) (by kernel_rfl) ⟨HBS.out _ (Bag.drew1 S8.out).old, HK1.out _ (Bag.drew1 S8.out).old, HK2.out _ (Bag.drew1 S8.out).old⟩ (fun hS => ?_)
                have S9 := Lib.hid (show Sl.Sep w4 _ [] from Bag.drew1 S8.out)
                clear S8
                generalize World.drew _ = w7 at hS S9 ⊢
                refine tk 0 rfl ?_
                try simp only [zp0, zp1, zp2, zp3, zp4]
                refine tk 1 rfl ?_
                try simp only [zp0, zp1, zp2, zp3, zp4]
                refine tk 2 rfl ?_
                try simp only [zp0, zp1, zp2, zp3, zp4]
                refine tk 3 rfl ?_
                try simp only [zp0, zp1, zp2, zp3, zp4]
                refine tk 4 rfl ?_
                try simp only [zp0, zp1, zp2, zp3, zp4]
                refine tk 5 rfl ?_
                try simp only [zp0, zp1, zp2, zp3, zp4]
                refine tk 6 rfl ?_
                try simp only [zp0, zp1, zp2, zp3, zp4]
                refine tk 7 rfl ?_
                try simp only [zp0, zp1, zp2, zp3, zp4]
                refine tk 8 rfl ?_
                try simp only [zp0, zp1, zp2, zp3, zp4]
                refine Reg.one_op (i := 9) rfl (by kernel_rfl) (fun K hK => ?_)
                go_simp
                have HC := specIsStore_any y HFY.out _ ((HY.out _ S9.out.old).more S9.out.old.size)
                rw [HV.out] at HC
                try dsimp only [LS.v, LS.cells, L4.K.v, L4.R.v, Cu.v] at HC
                go_at_call 17
                refine HC.mono ?_
                clear HC
                rintro e w8 ⟨rfl, hb⟩
                have S10 := Lib.hid (S9.out.keep hb)
                clear S9
                clear hb
                try dsimp only [LS.v, LS.cells, L4.K.v, L4.R.v, Cu.v]
                go_wp2_with fail
                refine hK.out _ _ ⟨HBS.out _ S10.out.old, HK1.out _ S10.out.old, HK2.out _ S10.out.old⟩ (fun hS => ?_)
                clear hK K
                try simp only [zp0, zp1, zp2, zp3, zp4]
                refine tk 10 rfl ?_
                try simp only [zp0, zp1, zp2, zp3, zp4]
                refine tk 11 rfl ?_
                try simp only [zp0, zp1, zp2, zp3, zp4]
                refine tk 12 rfl ?_
                try simp only [zp0, zp1, zp2, zp3, zp4]
                refine tk 13 rfl ?_
                try simp only [zp0, zp1, zp2, zp3, zp4]
                refine tk 14 rfl ?_
                try simp only [zp0, zp1, zp2, zp3, zp4]
                refine tk 15 rfl ?_
                try simp only [zp0, zp1, zp2, zp3, zp4]
                refine tk 16 rfl ?_
                try simp only [zp0, zp1, zp2, zp3, zp4]
                refine tk 17 rfl ?_
                try simp only [zp0, zp1, zp2, zp3, zp4]
                refine tk 18 rfl ?_
                try simp only [zp0, zp1, zp2, zp3, zp4]
                refine tk 19 rfl ?_
                try simp only [zp0, zp1, zp2, zp3, zp4]
                refine tk 20 rfl ?_
                try simp only [zp0, zp1, zp2, zp3, zp4]
                refine tk 21 rfl ?_
                try simp only [zp0, zp1, zp2, zp3, zp4]
                refine tk 22 rfl ?_
                try simp only [zp0, zp1, zp2, zp3, zp4]
                refine Reg.one_op (i := 23) rfl (by kernel_rfl) (fun K hK => ?_)
                go_simp
                have HC := L4.specCompareKeys_any ⟨kd2, n2, t2⟩ ⟨kd, n, t⟩ (by have : t2.size ≤ 1099511627776 := HF2.out.text; show t2.size ≤ _; omega) (by have : t.size ≤ 1099511627776 := HF1.out.text; show t.size ≤ _; omega) w8
                rw [HCM.out] at HC
                try dsimp only [LS.v, LS.cells, L4.K.v, L4.R.v, Cu.v] at HC
                go_at_call 27
                refine HC.mono ?_
                clear HC
                rintro e w9 ⟨rfl, hb⟩
                have S11 := Lib.hid (S10.out.keep hb)
                clear S10
                clear hb
                try dsimp only [LS.v, LS.cells, L4.K.v, L4.R.v, Cu.v]
                go_wp2_with fail
                refine hK.out _ _ ⟨HBS.out _ S11.out.old, HK1.out _ S11.out.old, HK2.out _ S11.out.old⟩ (fun hS => ?_)
                clear hK K
                try simp only [zp0, zp1, zp2, zp3, zp4]
                refine tk 24 rfl ?_
                try simp only [zp0, zp1, zp2, zp3, zp4]
                refine tk 25 rfl ?_
                try simp only [zp0, zp1, zp2, zp3, zp4]
                refine tk 26 rfl ?_
                try simp only [zp0, zp1, zp2, zp3, zp4]
                refine wpAnyH_done (by kernel_rfl) ?_ _
                have hh := HBS.out _ S11.out.old
                have f0 := hh.1; have f1 := hh.2.1; have f2 := hh.2.2; clear hh
                have hh := HK1.out _ S11.out.old
                have f3 := hh.1; have f4 := hh.2.1; have f5 := hh.2.2.1; have f6 := hh.2.2.2; clear hh
                have hh := HK2.out _ S11.out.old
                have f7 := hh.1; have f8 := hh.2.1; have f9 := hh.2.2.1; have f10 := hh.2.2.2; clear hh
                clear f0 f1 f2 f3 f4 f5 f6 f7 f8 f9 f10
                have hh := HBS.out _ S11.out.old
                have f0 := hh.1; have f1 := hh.2.1; have f2 := hh.2.2; clear hh
                have hh := HK1.out _ S11.out.old
                have f3 := hh.1; have f4 := hh.2.1; have f5 := hh.2.2.1; have f6 := hh.2.2.2; clear hh
                have hh := HK2.out _ S11.out.old
                have f7 := hh.1; have f8 := hh.2.1; have f9 := hh.2.2.1; have f10 := hh.2.2.2; clear hh
                go_upto_region 17 with fail
                clear f0 f1 f2 f3 f4 f5 f6 f7 f8 f9 f10
                have hh := HBS.out _ S11.out.old
                have f0 := hh.1; have f1 := hh.2.1; have f2 := hh.2.2; clear hh
                have hh := HK1.out _ S11.out.old
                have f3 := hh.1; have f4 := hh.2.1; have f5 := hh.2.2.1; have f6 := hh.2.2.2; clear hh
                have HC := countWith_any y f nb HFY.out _ ((HY.out _ S11.out.old).more S11.out.old.size)
                rw [HMM.out] at HC
                try dsimp only [LS.v, LS.cells, L4.K.v, L4.R.v, Cu.v] at HC
                go_wp2_with fail
                go_at_call 28
                refine HC.mono ?_
                clear HC
                rintro e w10 ⟨rfl, hb⟩
                clear f0 f1 f2 f3 f4 f5 f6
                have S12 := Lib.hid (S11.out.keep hb)
                clear S11
                clear hb
                try dsimp only [LS.v, LS.cells, L4.K.v, L4.R.v, Cu.v]
                have hm0 : ¬ (M : Int) < 1 := by omega
                have hh := HBS.out _ S12.out.old
                have f0 := hh.1; have f1 := hh.2.1; have f2 := hh.2.2; clear hh
                have hh := HK1.out _ S12.out.old
                have f3 := hh.1; have f4 := hh.2.1; have f5 := hh.2.2.1; have f6 := hh.2.2.2; clear hh
                go_wp2_with fail
                clear f0 f1 f2 f3 f4 f5 f6
                have hh := HBS.out _ S12.out.old
                have f0 := hh.1; have f1 := hh.2.1; have f2 := hh.2.2; clear hh
                have hh := HK1.out _ S12.out.old
                have f3 := hh.1; have f4 := hh.2.1; have f5 := hh.2.2.1; have f6 := hh.2.2.2; clear hh
                have HC := itemsWith_any y f nb HFY.out _ ((HY.out _ S12.out.old).more S12.out.old.size)
                try dsimp only [LS.v, LS.cells, L4.K.v, L4.R.v, Cu.v] at HC
                go_at_call 29
                refine HC.mono ?_
                clear HC
                rintro e w11 ⟨la2, lc2, zs, rfl, hzs, ho, hb⟩
                clear f0 f1 f2 f3 f4 f5 f6
                have S13 := Lib.hid (show Sl.Sep w4 _ [Bag.bag (rowI la2 lc2 zs :: rowsI zs)] from Bag.push_bag S12.out hb ho)
                clear S12
                clear ho hb
                try dsimp only [LS.v, LS.cells, L4.K.v, L4.R.v, Cu.v]
                have hzl : zs.length = M := by have h := congrArg List.length hzs; rw [conI_length, HMM.out] at h; exact h
                clear hzs
                rw [hzl]
                have S14 := Lib.hid (show Sl.Sep w4 _ [] from Bag.take S13.out [] (by rfl) (by decide))
                clear S13
                go_wp2_with fail
                go_roundw
                case rel => exact ⟨j + 1 + 1, true, by omega, by go_num, by first | rfl | simp, And.intro (by rw [show j + 1 + 1 = j + 2 from rfl, twice_next, HEQ7.out, Bool.or_true]) S14.out⟩
                case measure => simp [intOf]; omega
            · have he' : (nb == na) = false := by simpa using he
              have HNE7 := Lib.hid (show adj7 f.data.toList (conI ys) j = false from by rw [HAD.out]; exact he')
              have he2 : (na == nb) = false := by simp; omega
              have he3 : ¬ na = nb := by omega
              have hgt2 : (na < nb) = False := by simp; omega
              have hgt3 : decide (na < nb) = false := by simp; omega
              go_upto_region 14 with fail
              refine wp_region_held_drew (S := (fun w' => (World.cell? w' (⟨g1, 0, none⟩) = some (.string y.name) ∧ World.cell? w' (⟨g1, 1, none⟩) = some (.slice y.a y.xs.length y.c) ∧ World.cell? w' (⟨g1, 2, none⟩) = some (.int .i64 y.auto)) ∧ (World.cell? w' (ad.add ((j + 1) * 4)) = some (.int .i64 kd) ∧ World.cell? w' (⟨(ad.add ((j + 1) * 4)).block, (ad.add ((j + 1) * 4)).off + 1, none⟩) = some (.int .i64 n) ∧ World.cell? w' (⟨(ad.add ((j + 1) * 4)).block, (ad.add ((j + 1) * 4)).off + 2, none⟩) = some (.string t) ∧ World.cell? w' (⟨(ad.add ((j + 1) * 4)).block, (ad.add ((j + 1) * 4)).off + 3, none⟩) = some (.slice ia l.length ic)) ∧ (World.cell? w' (ad.add (j * 4)) = some (.int .i64 kd2) ∧ World.cell? w' (⟨(ad.add (j * 4)).block, (ad.add (j * 4)).off + 1, none⟩) = some (.int .i64 n2) ∧ World.cell? w' (⟨(ad.add (j * 4)).block, (ad.add (j * 4)).off + 2, none⟩) = some (.string t2) ∧ World.cell? w' (⟨(ad.add (j * 4)).block, (ad.add (j * 4)).off + 3, none⟩) = some (.slice ia2 l2.length ic2)))) (by kernel_rfl) ⟨HBS.out _ (Bag.drew1 S8.out).old, HK1.out _ (Bag.drew1 S8.out).old, HK2.out _ (Bag.drew1 S8.out).old⟩ (fun hS => ?_)
              have S9 := Lib.hid (show Sl.Sep w4 _ [] from Bag.drew1 S8.out)
              clear S8
              generalize World.drew _ = w7 at hS S9 ⊢
              refine tk 0 rfl ?_
              try simp only [zp0, zp1, zp2, zp3, zp4]
              refine tk 1 rfl ?_
              try simp only [zp0, zp1, zp2, zp3, zp4]
              refine tk 2 rfl ?_
              try simp only [zp0, zp1, zp2, zp3, zp4]
              refine tk 3 rfl ?_
              try simp only [zp0, zp1, zp2, zp3, zp4]
              refine tk 4 rfl ?_
              try simp only [zp0, zp1, zp2, zp3, zp4]
              refine tk 5 rfl ?_
              try simp only [zp0, zp1, zp2, zp3, zp4]
              refine tk 6 rfl ?_
              try simp only [zp0, zp1, zp2, zp3, zp4]
              refine tk 7 rfl ?_
              try simp only [zp0, zp1, zp2, zp3, zp4]
              refine sk 8 rfl ?_
              try simp only [zp0, zp1, zp2, zp3, zp4]
              refine Reg.skip_one (i := 9) rfl (by kernel_rfl) (by rfl) (by assumption) ?_
              try simp only [zp0, zp1, zp2, zp3, zp4]
              refine tk 10 rfl ?_
              try simp only [zp0, zp1, zp2, zp3, zp4]
              refine tk 11 rfl ?_
              try simp only [zp0, zp1, zp2, zp3, zp4]
              refine sk 12 rfl ?_
              try simp only [zp0, zp1, zp2, zp3, zp4]
              refine sk 13 rfl ?_
              try simp only [zp0, zp1, zp2, zp3, zp4]
              refine sk 14 rfl ?_
              try simp only [zp0, zp1, zp2, zp3, zp4]
              refine sk 15 rfl ?_
              try simp only [zp0, zp1, zp2, zp3, zp4]
              refine sk 16 rfl ?_
              try simp only [zp0, zp1, zp2, zp3, zp4]
              refine sk 17 rfl ?_
              try simp only [zp0, zp1, zp2, zp3, zp4]
              refine sk 18 rfl ?_
              try simp only [zp0, zp1, zp2, zp3, zp4]
              refine sk 19 rfl ?_
              try simp only [zp0, zp1, zp2, zp3, zp4]
              refine sk 20 rfl ?_
              try simp only [zp0, zp1, zp2, zp3, zp4]
              refine sk 21 rfl ?_
              try simp only [zp0, zp1, zp2, zp3, zp4]
              refine sk 22 rfl ?_
              try simp only [zp0, zp1, zp2, zp3, zp4]
              refine Reg.skip_one (i := 23) rfl (by kernel_rfl) (by rfl) (by assumption) ?_
              try simp only [zp0, zp1, zp2, zp3, zp4]
              refine sk 24 rfl ?_
              try simp only [zp0, zp1, zp2, zp3, zp4]
              refine tk 25 rfl ?_
              try simp only [zp0, zp1, zp2, zp3, zp4]
              refine tk 26 rfl ?_
              try simp only [zp0, zp1, zp2, zp3, zp4]
              refine wpAnyH_done (by kernel_rfl) ?_ _
              have hh := HBS.out _ S9.out.old
              have f0 := hh.1; have f1 := hh.2.1; have f2 := hh.2.2; clear hh
              have hh := HK1.out _ S9.out.old
              have f3 := hh.1; have f4 := hh.2.1; have f5 := hh.2.2.1; have f6 := hh.2.2.2; clear hh
              have hh := HK2.out _ S9.out.old
              have f7 := hh.1; have f8 := hh.2.1; have f9 := hh.2.2.1; have f10 := hh.2.2.2; clear hh
              clear f0 f1 f2 f3 f4 f5 f6 f7 f8 f9 f10
              have hh := HBS.out _ S9.out.old
              have f0 := hh.1; have f1 := hh.2.1; have f2 := hh.2.2; clear hh
              have hh := HK1.out _ S9.out.old
              have f3 := hh.1; have f4 := hh.2.1; have f5 := hh.2.2.1; have f6 := hh.2.2.2; clear hh
              have hh := HK2.out _ S9.out.old
              have f7 := hh.1; have f8 := hh.2.1; have f9 := hh.2.2.1; have f10 := hh.2.2.2; clear hh
              go_upto_region 17 with fail
              clear f0 f1 f2 f3 f4 f5 f6 f7 f8 f9 f10
              have hh := HBS.out _ S9.out.old
              have f0 := hh.1; have f1 := hh.2.1; have f2 := hh.2.2; clear hh
              have hh := HK1.out _ S9.out.old
              have f3 := hh.1; have f4 := hh.2.1; have f5 := hh.2.2.1; have f6 := hh.2.2.2; clear hh
              have HC := countWith_any y f na HFY.out _ ((HY.out _ S9.out.old).more S9.out.old.size)
              rw [HMM.out] at HC
              try dsimp only [LS.v, LS.cells, L4.K.v, L4.R.v, Cu.v] at HC
              go_wp2_with fail
              go_at_call 28
              refine HC.mono ?_
              clear HC
              rintro e w8 ⟨rfl, hb⟩
              clear f0 f1 f2 f3 f4 f5 f6
              have S10 := Lib.hid (S9.out.keep hb)
              clear S9
              clear hb
              try dsimp only [LS.v, LS.cells, L4.K.v, L4.R.v, Cu.v]
              have hm0 : ¬ (M : Int) < 1 := by omega
              have hh := HBS.out _ S10.out.old
              have f0 := hh.1; have f1 := hh.2.1; have f2 := hh.2.2; clear hh
              have hh := HK1.out _ S10.out.old
              have f3 := hh.1; have f4 := hh.2.1; have f5 := hh.2.2.1; have f6 := hh.2.2.2; clear hh
              go_wp2_with fail
              clear f0 f1 f2 f3 f4 f5 f6
              have hh := HBS.out _ S10.out.old
              have f0 := hh.1; have f1 := hh.2.1; have f2 := hh.2.2; clear hh
              have hh := HK1.out _ S10.out.old
              have f3 := hh.1; have f4 := hh.2.1; have f5 := hh.2.2.1; have f6 := hh.2.2.2; clear hh
              have HC := itemsWith_any y f na HFY.out _ ((HY.out _ S10.out.old).more S10.out.old.size)
              try dsimp only [LS.v, LS.cells, L4.K.v, L4.R.v, Cu.v] at HC
              go_at_call 29
              refine HC.mono ?_
              clear HC
              rintro e w9 ⟨la2, lc2, zs, rfl, hzs, ho, hb⟩
              clear f0 f1 f2 f3 f4 f5 f6
              have S11 := Lib.hid (show Sl.Sep w4 _ [Bag.bag (rowI la2 lc2 zs :: rowsI zs)] from Bag.push_bag S10.out hb ho)
              clear S10
              clear ho hb
              try dsimp only [LS.v, LS.cells, L4.K.v, L4.R.v, Cu.v]
              have hzl : zs.length = M := by have h := congrArg List.length hzs; rw [conI_length, HMM.out] at h; exact h
              clear hzs
              rw [hzl]
              have S12 := Lib.hid (show Sl.Sep w4 _ [] from Bag.take S11.out [] (by rfl) (by decide))
              clear S11
              go_wp2_with fail
              go_roundw
              case rel => exact ⟨j + 1 + 1, false, by omega, by go_num, by first | rfl | simp, And.intro (by rw [show j + 1 + 1 = j + 2 from rfl, twice_next, HNE7.out, ← HTW.out]; rfl) S12.out⟩
              case measure => simp [intOf]; omega
        | true =>
          by_cases hk0 : k = 0
          · subst hk0
            have hh := HBS.out _ S7.out.old
            have f0 := hh.1; have f1 := hh.2.1; have f2 := hh.2.2; clear hh
            have hh := HK1.out _ S7.out.old
            have f3 := hh.1; have f4 := hh.2.1; have f5 := hh.2.2.1; have f6 := hh.2.2.2; clear hh
            have HC := countWith_any y f na HFY.out _ ((HY.out _ S7.out.old).more S7.out.old.size)
            rw [HMM.out] at HC
            try dsimp only [LS.v, LS.cells, L4.K.v, L4.R.v, Cu.v] at HC
            go_wp2_with fail
            go_at_call 28
            refine HC.mono ?_
            clear HC
            rintro e w6 ⟨rfl, hb⟩
            clear f0 f1 f2 f3 f4 f5 f6
            have S8 := Lib.hid (S7.out.keep hb)
            clear S7
            clear hb
            try dsimp only [LS.v, LS.cells, L4.K.v, L4.R.v, Cu.v]
            have hm0 : ¬ (M : Int) < 1 := by omega
            have hh := HBS.out _ S8.out.old
            have f0 := hh.1; have f1 := hh.2.1; have f2 := hh.2.2; clear hh
            have hh := HK1.out _ S8.out.old
            have f3 := hh.1; have f4 := hh.2.1; have f5 := hh.2.2.1; have f6 := hh.2.2.2; clear hh
            go_wp2_with fail
            clear f0 f1 f2 f3 f4 f5 f6
            have hh := HBS.out _ S8.out.old
            have f0 := hh.1; have f1 := hh.2.1; have f2 := hh.2.2; clear hh
            have hh := HK1.out _ S8.out.old
            have f3 := hh.1; have f4 := hh.2.1; have f5 := hh.2.2.1; have f6 := hh.2.2.2; clear hh
            have HC := itemsWith_any y f na HFY.out _ ((HY.out _ S8.out.old).more S8.out.old.size)
            try dsimp only [LS.v, LS.cells, L4.K.v, L4.R.v, Cu.v] at HC
            go_at_call 29
            refine HC.mono ?_
            clear HC
            rintro e w7 ⟨la2, lc2, zs, rfl, hzs, ho, hb⟩
            clear f0 f1 f2 f3 f4 f5 f6
            have S9 := Lib.hid (show Sl.Sep w4 _ [Bag.bag (rowI la2 lc2 zs :: rowsI zs)] from Bag.push_bag S8.out hb ho)
            clear S8
            clear ho hb
            try dsimp only [LS.v, LS.cells, L4.K.v, L4.R.v, Cu.v]
            have hzl : zs.length = M := by have h := congrArg List.length hzs; rw [conI_length, HMM.out] at h; exact h
            clear hzs
            rw [hzl]
            have S10 := Lib.hid (show Sl.Sep w4 _ [] from Bag.take S9.out [] (by rfl) (by decide))
            clear S9
            go_wp2_with fail
            go_roundw
            case rel => exact ⟨0 + 1, true, by omega, by go_num, by first | rfl | simp, And.intro (by rw [HTW.out]; rfl) S10.out⟩
            case measure => simp [intOf]; omega
          · skip
            obtain ⟨j, rfl⟩ : ∃ j, k = j + 1 := ⟨k - 1, by omega⟩
            have hjl : j < ys.length := by omega
            obtain ⟨ad_, x2, e_, hx2⟩ := readsI_some (rd7 (HLR.out _ S7.out.old)) j hjl
            clear ad_ e_
            obtain ⟨⟨kd2, n2, t2⟩, ia2, ic2, l2⟩ := x2
            have HK2 := Lib.hid (fun w' (h : Below w4.heap.size w4 w') => readsI_at (rd7 (HLR.out _ h)) j _ hx2)
            try dsimp only at HK2
            have HI2 := Lib.hid (fun w' (h : Below w4.heap.size w4 w') => ((in7 (HLR.out _ h)).at_ (rowsI_mem hx2)).reads)
            have HC2 := Lib.hid (show (conI ys)[j]? = some (⟨⟨kd2, n2, t2⟩, l2⟩ : It) from con_of hx2)
            have HM2 := Lib.hid (show (⟨⟨kd2, n2, t2⟩, l2⟩ : It) ∈ idxI y.con.items f.data.toList from by rw [← HYS.out]; exact List.mem_of_getElem? HC2.out)
            have HF2 := Lib.hid (HFY.out.items _ (idxI_mem _ HM2.out).1)
            obtain ⟨nb, hnb⟩ : ∃ u, getN l2 f.data.toList = u := ⟨_, rfl⟩
            have HNB := Lib.hid hnb
            have HGB2 := Lib.hid (show getB l2 f.data.toList = true from (idxI_mem _ HM2.out).2)
            have hle : nb ≤ na := by have h := pair_at HNU.out HC2.out HC1.out; dsimp only at h; rw [HNA.out, hnb] at h; exact h
            have hgt : ¬ nb > na := by omega
            have HAD := Lib.hid (show adj7 f.data.toList (conI ys) j = (nb == na) from by rw [adj_at HC2.out HC1.out]; dsimp only; rw [hnb, HNA.out])
            clear hnb hx2
            have hsub : ((j + 1 : Nat) : Int) - 1 = (j : Int) := by omega
            have hi0 : 0 < ((j + 1 : Nat) : Int) := by omega
            have hjN : (j : Int) < (N : Int) := by omega
            have hjN1 : (j : Int) + 1 < (N : Int) := by omega
            have hj10 : (0 : Int) ≤ (j : Int) + 1 := by omega
            have hwr : IntKind.i64.wrap (j : Int) = (j : Int) := IntWalk.i64_in _ ⟨by omega, by omega⟩
            have hh := HBS.out _ S7.out.old
            have f0 := hh.1; have f1 := hh.2.1; have f2 := hh.2.2; clear hh
            have hh := HK1.out _ S7.out.old
            have f3 := hh.1; have f4 := hh.2.1; have f5 := hh.2.2.1; have f6 := hh.2.2.2; clear hh
            have hh := HK2.out _ S7.out.old
            have f7 := hh.1; have f8 := hh.2.1; have f9 := hh.2.2.1; have f10 := hh.2.2.2; clear hh
            have HC := L5.specGetField_any ia2 ic2 l2 f (by have : l2.length ≤ 1048576 := HF2.out.len; omega) _ ((HI2.out _ S7.out.old).more S7.out.old.size)
            rw [HNB.out, HGB2.out] at HC
            try dsimp only [LS.v, LS.cells, L4.K.v, L4.R.v, Cu.v] at HC
            go_wp2_with fail
            go_at_call 26
            refine HC.mono ?_
            clear HC
            rintro e w6 ⟨rfl, hb⟩
            clear f0 f1 f2 f3 f4 f5 f6 f7 f8 f9 f10
            have S8 := Lib.hid (S7.out.keep hb)
            clear S7
            clear hb
            try dsimp only [LS.v, LS.cells, L4.K.v, L4.R.v, Cu.v]
            by_cases he : nb = na
            · subst he
              have HEQ7 := Lib.hid (show adj7 f.data.toList (conI ys) j = true from by rw [HAD.out]; simp)
              cases hv : isS y.con with
              | false =>
                have HV := Lib.hid hv
                clear hv
                go_upto_region 14 with fail
                refine wp_region_held_drew (S := (fun w' => (World.cell? w' (⟨g1, 0, none⟩) = some (.string y.name) ∧ World.cell? w' (⟨g1, 1, none⟩) = some (.slice y.a y.xs.length y.c) ∧ World.cell? w' (⟨g1, 2, none⟩) = some (.int .i64 y.auto)) ∧ (World.cell? w' (ad.add ((j + 1) * 4)) = some (.int .i64 kd) ∧ World.cell? w' (⟨(ad.add ((j + 1) * 4)).block, (ad.add ((j + 1) * 4)).off + 1, none⟩) = some (.int .i64 n) ∧ World.cell? w' (⟨(ad.add ((j + 1) * 4)).block, (ad.add ((j + 1) * 4)).off + 2, none⟩) = some (.string t) ∧ World.cell? w' (⟨(ad.add ((j + 1) * 4)).block, (ad.add ((j + 1) * 4)).off + 3, none⟩) = some (.slice ia l.length ic)) ∧ (World.cell? w' (ad.add (j * 4)) = some (.int .i64 kd2) ∧ World.cell? w' (⟨(ad.add (j * 4)).block, (ad.add (j * 4)).off + 1, none⟩) = some (.int .i64 n2) ∧ World.cell? w' (⟨(ad.add (j * 4)).block, (ad.add (j * 4)).off + 2, none⟩) = some (.string t2) ∧ World.cell? w' (⟨(ad.add (j * 4)).block, (ad.add (j * 4)).off + 3, none⟩) = some (.slice ia2 l2.length ic2)))) (by kernel_rfl) ⟨HBS.out _ (Bag.drew1 S8.out).old, HK1.out _ (Bag.drew1 S8.out).old, HK2.out _ (Bag.drew1 S8.out).old⟩ (fun hS => ?_)
                have S9 := Lib.hid (show Sl.Sep w4 _ [] from Bag.drew1 S8.out)
                clear S8
                generalize World.drew _ = w7 at hS S9 ⊢
                refine tk 0 rfl ?_
                try simp only [zp0, zp1, zp2, zp3, zp4]
                refine tk 1 rfl ?_
                try simp only [zp0, zp1, zp2, zp3, zp4]
                refine tk 2 rfl ?_
                try simp only [zp0, zp1, zp2, zp3, zp4]
                refine tk 3 rfl ?_
                try simp only [zp0, zp1, zp2, zp3, zp4]
                refine tk 4 rfl ?_
                try simp only [zp0, zp1, zp2, zp3, zp4]
                refine tk 5 rfl ?_
                try simp only [zp0, zp1, zp2, zp3, zp4]
                refine tk 6 rfl ?_
                try simp only [zp0, zp1, zp2, zp3, zp4]
                refine tk 7 rfl ?_
                try simp only [zp0, zp1, zp2, zp3, zp4]
                refine tk 8 rfl ?_
                try simp only [zp0, zp1, zp2, zp3, zp4]
                refine Reg.one_op (i := 9) rfl (by kernel_rfl) (fun K hK => ?_)
                go_simp
                have HC := specIsStore_any y HFY.out _ ((HY.out _ S9.out.old).more S9.out.old.size)
                rw [HV.out] at HC
                try dsimp only [LS.v, LS.cells, L4.K.v, L4.R.v, Cu.v] at HC
                go_at_call 17
                refine HC.mono ?_
                clear HC
                rintro e w8 ⟨rfl, hb⟩
                have S10 := Lib.hid (S9.out.keep hb)
                clear S9
                clear hb
                try dsimp only [LS.v, LS.cells, L4.K.v, L4.R.v, Cu.v]
                go_wp2_with fail
                refine hK.out _ _ ⟨HBS.out _ S10.out.old, HK1.out _ S10.out.old, HK2.out _ S10.out.old⟩ (fun hS => ?_)
                clear hK K
                try simp only [zp0, zp1, zp2, zp3, zp4]
                refine tk 10 rfl ?_
                try simp only [zp0, zp1, zp2, zp3, zp4]
                refine tk 11 rfl ?_
                try simp only [zp0, zp1, zp2, zp3, zp4]
                refine sk 12 rfl ?_
                try simp only [zp0, zp1, zp2, zp3, zp4]
                refine sk 13 rfl ?_
                try simp only [zp0, zp1, zp2, zp3, zp4]
                refine sk 14 rfl ?_
                try simp only [zp0, zp1, zp2, zp3, zp4]
                refine sk 15 rfl ?_
                try simp only [zp0, zp1, zp2, zp3, zp4]
                refine sk 16 rfl ?_
                try simp only [zp0, zp1, zp2, zp3, zp4]
                refine sk 17 rfl ?_
                try simp only [zp0, zp1, zp2, zp3, zp4]
                refine sk 18 rfl ?_
                try simp only [zp0, zp1, zp2, zp3, zp4]
                refine sk 19 rfl ?_
                try simp only [zp0, zp1, zp2, zp3, zp4]
                refine sk 20 rfl ?_
                try simp only [zp0, zp1, zp2, zp3, zp4]
                refine sk 21 rfl ?_
                try simp only [zp0, zp1, zp2, zp3, zp4]
                refine sk 22 rfl ?_
                try simp only [zp0, zp1, zp2, zp3, zp4]
                refine Reg.skip_one (i := 23) rfl (by kernel_rfl) (by rfl) (by assumption) ?_
                try simp only [zp0, zp1, zp2, zp3, zp4]
                refine sk 24 rfl ?_
                try simp only [zp0, zp1, zp2, zp3, zp4]
                refine tk 25 rfl ?_
                try simp only [zp0, zp1, zp2, zp3, zp4]
                refine tk 26 rfl ?_
                try simp only [zp0, zp1, zp2, zp3, zp4]
                refine wpAnyH_done (by kernel_rfl) ?_ _
                have hh := HBS.out _ S10.out.old
                have f0 := hh.1; have f1 := hh.2.1; have f2 := hh.2.2; clear hh
                have hh := HK1.out _ S10.out.old
                have f3 := hh.1; have f4 := hh.2.1; have f5 := hh.2.2.1; have f6 := hh.2.2.2; clear hh
                have hh := HK2.out _ S10.out.old
                have f7 := hh.1; have f8 := hh.2.1; have f9 := hh.2.2.1; have f10 := hh.2.2.2; clear hh
                clear f0 f1 f2 f3 f4 f5 f6 f7 f8 f9 f10
                have hh := HBS.out _ S10.out.old
                have f0 := hh.1; have f1 := hh.2.1; have f2 := hh.2.2; clear hh
                have hh := HK1.out _ S10.out.old
                have f3 := hh.1; have f4 := hh.2.1; have f5 := hh.2.2.1; have f6 := hh.2.2.2; clear hh
                have hh := HK2.out _ S10.out.old
                have f7 := hh.1; have f8 := hh.2.1; have f9 := hh.2.2.1; have f10 := hh.2.2.2; clear hh
                go_upto_region 17 with fail
                clear f0 f1 f2 f3 f4 f5 f6 f7 f8 f9 f10
                have hh := HBS.out _ S10.out.old
                have f0 := hh.1; have f1 := hh.2.1; have f2 := hh.2.2; clear hh
                have hh := HK1.out _ S10.out.old
                have f3 := hh.1; have f4 := hh.2.1; have f5 := hh.2.2.1; have f6 := hh.2.2.2; clear hh
                have HC := countWith_any y f nb HFY.out _ ((HY.out _ S10.out.old).more S10.out.old.size)
                rw [HMM.out] at HC
                try dsimp only [LS.v, LS.cells, L4.K.v, L4.R.v, Cu.v] at HC
                go_wp2_with fail
                go_at_call 28
                refine HC.mono ?_
                clear HC
                rintro e w9 ⟨rfl, hb⟩
                clear f0 f1 f2 f3 f4 f5 f6
                have S11 := Lib.hid (S10.out.keep hb)
                clear S10
                clear hb
                try dsimp only [LS.v, LS.cells, L4.K.v, L4.R.v, Cu.v]
                have hm0 : ¬ (M : Int) < 1 := by omega
                have hh := HBS.out _ S11.out.old
                have f0 := hh.1; have f1 := hh.2.1; have f2 := hh.2.2; clear hh
                have hh := HK1.out _ S11.out.old
                have f3 := hh.1; have f4 := hh.2.1; have f5 := hh.2.2.1; have f6 := hh.2.2.2; clear hh
                go_wp2_with fail
                clear f0 f1 f2 f3 f4 f5 f6
                have hh := HBS.out _ S11.out.old
                have f0 := hh.1; have f1 := hh.2.1; have f2 := hh.2.2; clear hh
                have hh := HK1.out _ S11.out.old
                have f3 := hh.1; have f4 := hh.2.1; have f5 := hh.2.2.1; have f6 := hh.2.2.2; clear hh
                have HC := itemsWith_any y f nb HFY.out _ ((HY.out _ S11.out.old).more S11.out.old.size)
                try dsimp only [LS.v, LS.cells, L4.K.v, L4.R.v, Cu.v] at HC
                go_at_call 29
                refine HC.mono ?_
                clear HC
                rintro e w10 ⟨la2, lc2, zs, rfl, hzs, ho, hb⟩
                clear f0 f1 f2 f3 f4 f5 f6
                have S12 := Lib.hid (show Sl.Sep w4 _ [Bag.bag (rowI la2 lc2 zs :: rowsI zs)] from Bag.push_bag S11.out hb ho)
                clear S11
                clear ho hb
                try dsimp only [LS.v, LS.cells, L4.K.v, L4.R.v, Cu.v]
                have hzl : zs.length = M := by have h := congrArg List.length hzs; rw [conI_length, HMM.out] at h; exact h
                clear hzs
                rw [hzl]
                have S13 := Lib.hid (show Sl.Sep w4 _ [] from Bag.take S12.out [] (by rfl) (by decide))
                clear S12
                go_wp2_with fail
                go_roundw
                case rel => exact ⟨j + 1 + 1, true, by omega, by go_num, by first | rfl | simp, And.intro (by rw [show j + 1 + 1 = j + 2 from rfl, twice_next, HEQ7.out, Bool.or_true]) S13.out⟩
                case measure => simp [intOf]; omega
              | true =>
                have HV := Lib.hid hv
                clear hv
                obtain ⟨m, hm⟩ : ∃ m, cmpK ⟨kd2, n2, t2⟩ ⟨kd, n, t⟩ = m := ⟨_, rfl⟩
                have HCM := Lib.hid hm
                have hmn : ¬ (0 : Int) ≤ m := by have h := pair_at (by have h := idxI_keys (isS_items HV.out) f.data.toList; rw [← HYS.out] at h; exact h) HC2.out HC1.out; unfold lt7 at h; rw [← hm]; dsimp only at h; rw [HNB.out, HNA.out] at h; omega
                clear hm
                go_upto_region 14 with fail
                refine wp_region_held_drew (S := (fun w' => (World.cell? w' (⟨g1, 0, none⟩) = some (.string y.name) ∧ World.cell? w' (⟨g1, 1, none⟩) = some (.slice y.a y.xs.length y.c) ∧ World.cell? w' (⟨g1, 2, none⟩) = some (.int .i64 y.auto)) ∧ (World.cell? w' (ad.add ((j + 1) * 4)) = some (.int .i64 kd) ∧ World.cell? w' (⟨(ad.add ((j + 1) * 4)).block, (ad.add ((j + 1) * 4)).off + 1, none⟩) = some (.int .i64 n) ∧ World.cell? w' (⟨(ad.add ((j + 1) * 4)).block, (ad.add ((j + 1) * 4)).off + 2, none⟩) = some (.string t) ∧ World.cell? w' (⟨(ad.add ((j + 1) * 4)).block, (ad.add ((j + 1) * 4)).off + 3, none⟩) = some (.slice ia l.length ic)) ∧ (World.cell? w' (ad.add (j * 4)) = some (.int .i64 kd2) ∧ World.cell? w' (⟨(ad.add (j * 4)).block, (ad.add (j * 4)).off + 1, none⟩) = some (.int .i64 n2) ∧ World.cell? w' (⟨(ad.add (j * 4)).block, (ad.add (j * 4)).off + 2, none⟩) = some (.string t2) ∧ World.cell? w' (⟨(ad.add (j * 4)).block, (ad.add (j * 4)).off + 3, none⟩) = some (.slice ia2 l2.length ic2)))) (by kernel_rfl) ⟨HBS.out _ (Bag.drew1 S8.out).old, HK1.out _ (Bag.drew1 S8.out).old, HK2.out _ (Bag.drew1 S8.out).old⟩ (fun hS => ?_)
                have S9 := Lib.hid (show Sl.Sep w4 _ [] from Bag.drew1 S8.out)
                clear S8
                generalize World.drew _ = w7 at hS S9 ⊢
                refine tk 0 rfl ?_
                try simp only [zp0, zp1, zp2, zp3, zp4]
                refine tk 1 rfl ?_
                try simp only [zp0, zp1, zp2, zp3, zp4]
                refine tk 2 rfl ?_
                try simp only [zp0, zp1, zp2, zp3, zp4]
                refine tk 3 rfl ?_
                try simp only [zp0, zp1, zp2, zp3, zp4]
                refine tk 4 rfl ?_
                try simp only [zp0, zp1, zp2, zp3, zp4]
                refine tk 5 rfl ?_
                try simp only [zp0, zp1, zp2, zp3, zp4]
                refine tk 6 rfl ?_
                try simp only [zp0, zp1, zp2, zp3, zp4]
                refine tk 7 rfl ?_
                try simp only [zp0, zp1, zp2, zp3, zp4]
                refine tk 8 rfl ?_
                try simp only [zp0, zp1, zp2, zp3, zp4]
                refine Reg.one_op (i := 9) rfl (by kernel_rfl) (fun K hK => ?_)
                go_simp
                have HC := specIsStore_any y HFY.out _ ((HY.out _ S9.out.old).more S9.out.old.size)
                rw [HV.out] at HC
                try dsimp only [LS.v, LS.cells, L4.K.v, L4.R.v, Cu.v] at HC
                go_at_call 17
                refine HC.mono ?_
                clear HC
                rintro e w8 ⟨rfl, hb⟩
                have S10 := Lib.hid (S9.out.keep hb)
                clear S9
                clear hb
                try dsimp only [LS.v, LS.cells, L4.K.v, L4.R.v, Cu.v]
                go_wp2_with fail
                refine hK.out _ _ ⟨HBS.out _ S10.out.old, HK1.out _ S10.out.old, HK2.out _ S10.out.old⟩ (fun hS => ?_)
                clear hK K
                try simp only [zp0, zp1, zp2, zp3, zp4]
                refine tk 10 rfl ?_
                try simp only [zp0, zp1, zp2, zp3, zp4]
                refine tk 11 rfl ?_
                try simp only [zp0, zp1, zp2, zp3, zp4]
                refine tk 12 rfl ?_
                try simp only [zp0, zp1, zp2, zp3, zp4]
                refine tk 13 rfl ?_
                try simp only [zp0, zp1, zp2, zp3, zp4]
                refine tk 14 rfl ?_
                try simp only [zp0, zp1, zp2, zp3, zp4]
                refine tk 15 rfl ?_
                try simp only [zp0, zp1, zp2, zp3, zp4]
                refine tk 16 rfl ?_
                try simp only [zp0, zp1, zp2, zp3, zp4]
                refine tk 17 rfl ?_
                try simp only [zp0, zp1, zp2, zp3, zp4]
                refine tk 18 rfl ?_
                try simp only [zp0, zp1, zp2, zp3, zp4]
                refine tk 19 rfl ?_
                try simp only [zp0, zp1, zp2, zp3, zp4]
                refine tk 20 rfl ?_
                try simp only [zp0, zp1, zp2, zp3, zp4]
                refine tk 21 rfl ?_
                try simp only [zp0, zp1, zp2, zp3, zp4]
                refine tk 22 rfl ?_
                try simp only [zp0, zp1, zp2, zp3, zp4]
                refine Reg.one_op (i := 23) rfl (by kernel_rfl) (fun K hK => ?_)
                go_simp
                have HC := L4.specCompareKeys_any ⟨kd2, n2, t2⟩ ⟨kd, n, t⟩ (by have : t2.size ≤ 1099511627776 := HF2.out.text; show t2.size ≤ _; omega) (by have : t.size ≤ 1099511627776 := HF1.out.text; show t.size ≤ _; omega) w8
                rw [HCM.out] at HC
                try dsimp only [LS.v, LS.cells, L4.K.v, L4.R.v, Cu.v] at HC
                go_at_call 27
                refine HC.mono ?_
                clear HC
                rintro e w9 ⟨rfl, hb⟩
                have S11 := Lib.hid (S10.out.keep hb)
                clear S10
                clear hb
                try dsimp only [LS.v, LS.cells, L4.K.v, L4.R.v, Cu.v]
                go_wp2_with fail
                refine hK.out _ _ ⟨HBS.out _ S11.out.old, HK1.out _ S11.out.old, HK2.out _ S11.out.old⟩ (fun hS => ?_)
                clear hK K
                try simp only [zp0, zp1, zp2, zp3, zp4]
                refine tk 24 rfl ?_
                try simp only [zp0, zp1, zp2, zp3, zp4]
                refine tk 25 rfl ?_
                try simp only [zp0, zp1, zp2, zp3, zp4]
                refine tk 26 rfl ?_
                try simp only [zp0, zp1, zp2, zp3, zp4]
                refine wpAnyH_done (by kernel_rfl) ?_ _
                have hh := HBS.out _ S11.out.old
                have f0 := hh.1; have f1 := hh.2.1; have f2 := hh.2.2; clear hh
                have hh := HK1.out _ S11.out.old
                have f3 := hh.1; have f4 := hh.2.1; have f5 := hh.2.2.1; have f6 := hh.2.2.2; clear hh
                have hh := HK2.out _ S11.out.old
                have f7 := hh.1; have f8 := hh.2.1; have f9 := hh.2.2.1; have f10 := hh.2.2.2; clear hh
                clear f0 f1 f2 f3 f4 f5 f6 f7 f8 f9 f10
                have hh := HBS.out _ S11.out.old
                have f0 := hh.1; have f1 := hh.2.1; have f2 := hh.2.2; clear hh
                have hh := HK1.out _ S11.out.old
                have f3 := hh.1; have f4 := hh.2.1; have f5 := hh.2.2.1; have f6 := hh.2.2.2; clear hh
                have hh := HK2.out _ S11.out.old
                have f7 := hh.1; have f8 := hh.2.1; have f9 := hh.2.2.1; have f10 := hh.2.2.2; clear hh
                go_upto_region 17 with fail
                clear f0 f1 f2 f3 f4 f5 f6 f7 f8 f9 f10
                have hh := HBS.out _ S11.out.old
                have f0 := hh.1; have f1 := hh.2.1; have f2 := hh.2.2; clear hh
                have hh := HK1.out _ S11.out.old
                have f3 := hh.1; have f4 := hh.2.1; have f5 := hh.2.2.1; have f6 := hh.2.2.2; clear hh
                have HC := countWith_any y f nb HFY.out _ ((HY.out _ S11.out.old).more S11.out.old.size)
                rw [HMM.out] at HC
                try dsimp only [LS.v, LS.cells, L4.K.v, L4.R.v, Cu.v] at HC
                go_wp2_with fail
                go_at_call 28
                refine HC.mono ?_
                clear HC
                rintro e w10 ⟨rfl, hb⟩
                clear f0 f1 f2 f3 f4 f5 f6
                have S12 := Lib.hid (S11.out.keep hb)
                clear S11
                clear hb
                try dsimp only [LS.v, LS.cells, L4.K.v, L4.R.v, Cu.v]
                have hm0 : ¬ (M : Int) < 1 := by omega
                have hh := HBS.out _ S12.out.old
                have f0 := hh.1; have f1 := hh.2.1; have f2 := hh.2.2; clear hh
                have hh := HK1.out _ S12.out.old
                have f3 := hh.1; have f4 := hh.2.1; have f5 := hh.2.2.1; have f6 := hh.2.2.2; clear hh
                go_wp2_with fail
                clear f0 f1 f2 f3 f4 f5 f6
                have hh := HBS.out _ S12.out.old
                have f0 := hh.1; have f1 := hh.2.1; have f2 := hh.2.2; clear hh
                have hh := HK1.out _ S12.out.old
                have f3 := hh.1; have f4 := hh.2.1; have f5 := hh.2.2.1; have f6 := hh.2.2.2; clear hh
                have HC := itemsWith_any y f nb HFY.out _ ((HY.out _ S12.out.old).more S12.out.old.size)
                try dsimp only [LS.v, LS.cells, L4.K.v, L4.R.v, Cu.v] at HC
                go_at_call 29
                refine HC.mono ?_
                clear HC
                rintro e w11 ⟨la2, lc2, zs, rfl, hzs, ho, hb⟩
                clear f0 f1 f2 f3 f4 f5 f6
                have S13 := Lib.hid (show Sl.Sep w4 _ [Bag.bag (rowI la2 lc2 zs :: rowsI zs)] from Bag.push_bag S12.out hb ho)
                clear S12
                clear ho hb
                try dsimp only [LS.v, LS.cells, L4.K.v, L4.R.v, Cu.v]
                have hzl : zs.length = M := by have h := congrArg List.length hzs; rw [conI_length, HMM.out] at h; exact h
                clear hzs
                rw [hzl]
                have S14 := Lib.hid (show Sl.Sep w4 _ [] from Bag.take S13.out [] (by rfl) (by decide))
                clear S13
                go_wp2_with fail
                go_roundw
                case rel => exact ⟨j + 1 + 1, true, by omega, by go_num, by first | rfl | simp, And.intro (by rw [show j + 1 + 1 = j + 2 from rfl, twice_next, HEQ7.out, Bool.or_true]) S14.out⟩
                case measure => simp [intOf]; omega
            · have he' : (nb == na) = false := by simpa using he
              have HNE7 := Lib.hid (show adj7 f.data.toList (conI ys) j = false from by rw [HAD.out]; exact he')
              have he2 : (na == nb) = false := by simp; omega
              have he3 : ¬ na = nb := by omega
              have hgt2 : (na < nb) = False := by simp; omega
              have hgt3 : decide (na < nb) = false := by simp; omega
              go_upto_region 14 with fail
              refine wp_region_held_drew (S := (fun w' => (World.cell? w' (⟨g1, 0, none⟩) = some (.string y.name) ∧ World.cell? w' (⟨g1, 1, none⟩) = some (.slice y.a y.xs.length y.c) ∧ World.cell? w' (⟨g1, 2, none⟩) = some (.int .i64 y.auto)) ∧ (World.cell? w' (ad.add ((j + 1) * 4)) = some (.int .i64 kd) ∧ World.cell? w' (⟨(ad.add ((j + 1) * 4)).block, (ad.add ((j + 1) * 4)).off + 1, none⟩) = some (.int .i64 n) ∧ World.cell? w' (⟨(ad.add ((j + 1) * 4)).block, (ad.add ((j + 1) * 4)).off + 2, none⟩) = some (.string t) ∧ World.cell? w' (⟨(ad.add ((j + 1) * 4)).block, (ad.add ((j + 1) * 4)).off + 3, none⟩) = some (.slice ia l.length ic)) ∧ (World.cell? w' (ad.add (j * 4)) = some (.int .i64 kd2) ∧ World.cell? w' (⟨(ad.add (j * 4)).block, (ad.add (j * 4)).off + 1, none⟩) = some (.int .i64 n2) ∧ World.cell? w' (⟨(ad.add (j * 4)).block, (ad.add (j * 4)).off + 2, none⟩) = some (.string t2) ∧ World.cell? w' (⟨(ad.add (j * 4)).block, (ad.add (j * 4)).off + 3, none⟩) = some (.slice ia2 l2.length ic2)))) (by kernel_rfl) ⟨HBS.out _ (Bag.drew1 S8.out).old, HK1.out _ (Bag.drew1 S8.out).old, HK2.out _ (Bag.drew1 S8.out).old⟩ (fun hS => ?_)
              have S9 := Lib.hid (show Sl.Sep w4 _ [] from Bag.drew1 S8.out)
              clear S8
              generalize World.drew _ = w7 at hS S9 ⊢
              refine tk 0 rfl ?_
              try simp only [zp0, zp1, zp2, zp3, zp4]
              refine tk 1 rfl ?_
              try simp only [zp0, zp1, zp2, zp3, zp4]
              refine tk 2 rfl ?_
              try simp only [zp0, zp1, zp2, zp3, zp4]
              refine tk 3 rfl ?_
              try simp only [zp0, zp1, zp2, zp3, zp4]
              refine tk 4 rfl ?_
              try simp only [zp0, zp1, zp2, zp3, zp4]
              refine tk 5 rfl ?_
              try simp only [zp0, zp1, zp2, zp3, zp4]
              refine tk 6 rfl ?_
              try simp only [zp0, zp1, zp2, zp3, zp4]
              refine tk 7 rfl ?_
              try simp only [zp0, zp1, zp2, zp3, zp4]
              refine sk 8 rfl ?_
              try simp only [zp0, zp1, zp2, zp3, zp4]
              refine Reg.skip_one (i := 9) rfl (by kernel_rfl) (by rfl) (by assumption) ?_
              try simp only [zp0, zp1, zp2, zp3, zp4]
              refine tk 10 rfl ?_
              try simp only [zp0, zp1, zp2, zp3, zp4]
              refine tk 11 rfl ?_
              try simp only [zp0, zp1, zp2, zp3, zp4]
              refine sk 12 rfl ?_
              try simp only [zp0, zp1, zp2, zp3, zp4]
              refine sk 13 rfl ?_
              try simp only [zp0, zp1, zp2, zp3, zp4]
              refine sk 14 rfl ?_
              try simp only [zp0, zp1, zp2, zp3, zp4]
              refine sk 15 rfl ?_
              try simp only [zp0, zp1, zp2, zp3, zp4]
              refine sk 16 rfl ?_
              try simp only [zp0, zp1, zp2, zp3, zp4]
              refine sk 17 rfl ?_
              try simp only [zp0, zp1, zp2, zp3, zp4]
              refine sk 18 rfl ?_
              try simp only [zp0, zp1, zp2, zp3, zp4]
              refine sk 19 rfl ?_
              try simp only [zp0, zp1, zp2, zp3, zp4]
              refine sk 20 rfl ?_
              try simp only [zp0, zp1, zp2, zp3, zp4]
              refine sk 21 rfl ?_
              try simp only [zp0, zp1, zp2, zp3, zp4]
              refine sk 22 rfl ?_
              try simp only [zp0, zp1, zp2, zp3, zp4]
              refine Reg.skip_one (i := 23) rfl (by kernel_rfl) (by rfl) (by assumption) ?_
              try simp only [zp0, zp1, zp2, zp3, zp4]
              refine sk 24 rfl ?_
              try simp only [zp0, zp1, zp2, zp3, zp4]
              refine tk 25 rfl ?_
              try simp only [zp0, zp1, zp2, zp3, zp4]
              refine tk 26 rfl ?_
              try simp only [zp0, zp1, zp2, zp3, zp4]
              refine wpAnyH_done (by kernel_rfl) ?_ _
              have hh := HBS.out _ S9.out.old
              have f0 := hh.1; have f1 := hh.2.1; have f2 := hh.2.2; clear hh
              have hh := HK1.out _ S9.out.old
              have f3 := hh.1; have f4 := hh.2.1; have f5 := hh.2.2.1; have f6 := hh.2.2.2; clear hh
              have hh := HK2.out _ S9.out.old
              have f7 := hh.1; have f8 := hh.2.1; have f9 := hh.2.2.1; have f10 := hh.2.2.2; clear hh
              clear f0 f1 f2 f3 f4 f5 f6 f7 f8 f9 f10
              have hh := HBS.out _ S9.out.old
              have f0 := hh.1; have f1 := hh.2.1; have f2 := hh.2.2; clear hh
              have hh := HK1.out _ S9.out.old
              have f3 := hh.1; have f4 := hh.2.1; have f5 := hh.2.2.1; have f6 := hh.2.2.2; clear hh
              have hh := HK2.out _ S9.out.old
              have f7 := hh.1; have f8 := hh.2.1; have f9 := hh.2.2.1; have f10 := hh.2.2.2; clear hh
              go_upto_region 17 with fail
              clear f0 f1 f2 f3 f4 f5 f6 f7 f8 f9 f10
              have hh := HBS.out _ S9.out.old
              have f0 := hh.1; have f1 := hh.2.1; have f2 := hh.2.2; clear hh
              have hh := HK1.out _ S9.out.old
              have f3 := hh.1; have f4 := hh.2.1; have f5 := hh.2.2.1; have f6 := hh.2.2.2; clear hh
              have HC := countWith_any y f na HFY.out _ ((HY.out _ S9.out.old).more S9.out.old.size)
              rw [HMM.out] at HC
              try dsimp only [LS.v, LS.cells, L4.K.v, L4.R.v, Cu.v] at HC
              go_wp2_with fail
              go_at_call 28
              refine HC.mono ?_
              clear HC
              rintro e w8 ⟨rfl, hb⟩
              clear f0 f1 f2 f3 f4 f5 f6
              have S10 := Lib.hid (S9.out.keep hb)
              clear S9
              clear hb
              try dsimp only [LS.v, LS.cells, L4.K.v, L4.R.v, Cu.v]
              have hm0 : ¬ (M : Int) < 1 := by omega
              have hh := HBS.out _ S10.out.old
              have f0 := hh.1; have f1 := hh.2.1; have f2 := hh.2.2; clear hh
              have hh := HK1.out _ S10.out.old
              have f3 := hh.1; have f4 := hh.2.1; have f5 := hh.2.2.1; have f6 := hh.2.2.2; clear hh
              go_wp2_with fail
              clear f0 f1 f2 f3 f4 f5 f6
              have hh := HBS.out _ S10.out.old
              have f0 := hh.1; have f1 := hh.2.1; have f2 := hh.2.2; clear hh
              have hh := HK1.out _ S10.out.old
              have f3 := hh.1; have f4 := hh.2.1; have f5 := hh.2.2.1; have f6 := hh.2.2.2; clear hh
              have HC := itemsWith_any y f na HFY.out _ ((HY.out _ S10.out.old).more S10.out.old.size)
              try dsimp only [LS.v, LS.cells, L4.K.v, L4.R.v, Cu.v] at HC
              go_at_call 29
              refine HC.mono ?_
              clear HC
              rintro e w9 ⟨la2, lc2, zs, rfl, hzs, ho, hb⟩
              clear f0 f1 f2 f3 f4 f5 f6
              have S11 := Lib.hid (show Sl.Sep w4 _ [Bag.bag (rowI la2 lc2 zs :: rowsI zs)] from Bag.push_bag S10.out hb ho)
              clear S10
              clear ho hb
              try dsimp only [LS.v, LS.cells, L4.K.v, L4.R.v, Cu.v]
              have hzl : zs.length = M := by have h := congrArg List.length hzs; rw [conI_length, HMM.out] at h; exact h
              clear hzs
              rw [hzl]
              have S12 := Lib.hid (show Sl.Sep w4 _ [] from Bag.take S11.out [] (by rfl) (by decide))
              clear S11
              go_wp2_with fail
              go_roundw
              case rel => exact ⟨j + 1 + 1, true, by omega, by go_num, by first | rfl | simp, And.intro (by rw [show j + 1 + 1 = j + 2 from rfl, twice_next, HNE7.out, ← HTW.out]; rfl) S12.out⟩
              case measure => simp [intOf]; omega
      · skip
        have hkN : k = N := by omega
        subst hkN
        obtain ⟨kA, hA⟩ : ∃ u, ufA f.data.toList (idxI y.con.items f.data.toList) = u := ⟨_, rfl⟩
        obtain ⟨kZ, hZ⟩ : ∃ u, ufZ f.data.toList (idxI y.con.items f.data.toList) = u := ⟨_, rfl⟩
        have hB : ufB f.data.toList (idxI y.con.items f.data.toList) = b := by rw [HTW.out, HN.out, ← conI_length ys, twice_all, HYS.out]
        have HE := Lib.hid (And.intro hA (And.intro hZ hB))
        clear hA hZ hB
        have hh := HBS.out _ S6.out.old
        have f0 := hh.1; have f1 := hh.2.1; have f2 := hh.2.2; clear hh
        have HC := uniqueFault_any y f HFY.out _ ((HY.out _ S6.out.old).more S6.out.old.size)
        rw [HE.out.1, HE.out.2.1, HE.out.2.2] at HC
        try dsimp only [LS.v, LS.cells, L4.K.v, L4.R.v, Cu.v] at HC
        go_wp2_with fail
        go_at_call 30
        refine HC.mono ?_
        clear HC
        rintro e w5 ⟨rfl, hb⟩
        clear f0 f1 f2
        have S7 := Lib.hid (S6.out.keep hb)
        clear S6
        clear hb
        try dsimp only [LS.v, LS.cells, L4.K.v, L4.R.v, Cu.v]
        go_upto_region 21 with fail
        have S8 := Lib.hid (show Sl.Sep w4 _ [L4.boxR w5.heap.size 28 #[.int .i64 kA.kind, .int .i64 kA.n, .string kA.text], L4.boxR (w5.heap.size + 1) 28 #[.int .i64 kZ.kind, .int .i64 kZ.n, .string kZ.text]] from L4.push_box (L4.push_box (S7.out) 28 #[.int .i64 kA.kind, .int .i64 kA.n, .string kA.text] (w5.heap.size) (by simp)) 28 #[.int .i64 kZ.kind, .int .i64 kZ.n, .string kZ.text] (w5.heap.size + 1) (by simp))
        clear S7
        obtain ⟨g2, hg⟩ : ∃ g', g' = w5.heap.size := ⟨_, rfl⟩
        rw [← hg] at S8 ⊢
        clear hg
        obtain ⟨g3, hg⟩ : ∃ g', g' = g2 + 1 := ⟨_, rfl⟩
        (try rw [← hg] at S8); (try rw [← hg])
        clear hg
        obtain ⟨w6, hw⟩ : ∃ uu, uu = ((w5.alloc (.cells #[.int .i64 kA.kind, .int .i64 kA.n, .string kA.text] 28)).alloc (.cells #[.int .i64 kZ.kind, .int .i64 kZ.n, .string kZ.text] 28)) := ⟨_, rfl⟩
        rw [← hw] at S8 ⊢
        clear hw
        have hh := Bag.cs3 S8.out 0 rfl
        have f0 := hh.1; have f1 := hh.2.1; have f2 := hh.2.2; clear hh
        have hh := Bag.cs3 S8.out 1 rfl
        have f3 := hh.1; have f4 := hh.2.1; have f5 := hh.2.2; clear hh
        have hh := HBS.out _ S8.out.old
        have f6 := hh.1; have f7 := hh.2.1; have f8 := hh.2.2; clear hh
        have HC := specUniqueFault_any y f HFY.out _ ((HY.out _ S8.out.old).more S8.out.old.size)
        rw [HE.out.1, HE.out.2.1, HE.out.2.2] at HC
        try dsimp only [LS.v, LS.cells, L4.K.v, L4.R.v, Cu.v] at HC
        go_wp2_with fail
        go_at_call 31
        refine HC.mono ?_
        clear HC
        rintro e w7 ⟨rfl, hb⟩
        clear f0 f1 f2 f3 f4 f5 f6 f7 f8
        have S9 := Lib.hid (S8.out.keep hb)
        clear S8
        clear hb
        try dsimp only [LS.v, LS.cells, L4.K.v, L4.R.v, Cu.v]
        go_upto_region 22 with fail
        have S10 := Lib.hid (show Sl.Sep w4 _ [L4.boxR g2 28 #[.int .i64 kA.kind, .int .i64 kA.n, .string kA.text], L4.boxR g3 28 #[.int .i64 kZ.kind, .int .i64 kZ.n, .string kZ.text], L4.boxR w7.heap.size 28 #[.int .i64 kA.kind, .int .i64 kA.n, .string kA.text], L4.boxR (w7.heap.size + 1) 28 #[.int .i64 kZ.kind, .int .i64 kZ.n, .string kZ.text]] from L4.push_box (L4.push_box (S9.out) 28 #[.int .i64 kA.kind, .int .i64 kA.n, .string kA.text] (w7.heap.size) (by simp)) 28 #[.int .i64 kZ.kind, .int .i64 kZ.n, .string kZ.text] (w7.heap.size + 1) (by simp))
        clear S9
        obtain ⟨g4, hg⟩ : ∃ g', g' = w7.heap.size := ⟨_, rfl⟩
        rw [← hg] at S10 ⊢
        clear hg
        obtain ⟨g5, hg⟩ : ∃ g', g' = g4 + 1 := ⟨_, rfl⟩
        (try rw [← hg] at S10); (try rw [← hg])
        clear hg
        obtain ⟨w8, hw⟩ : ∃ uu, uu = ((w7.alloc (.cells #[.int .i64 kA.kind, .int .i64 kA.n, .string kA.text] 28)).alloc (.cells #[.int .i64 kZ.kind, .int .i64 kZ.n, .string kZ.text] 28)) := ⟨_, rfl⟩
        rw [← hw] at S10 ⊢
        clear hw
        have HEQ := fun w => key_self kA w
        have HEZ := fun w => key_self kZ w
        have hh := Bag.cs3 S10.out 0 rfl
        have f0 := hh.1; have f1 := hh.2.1; have f2 := hh.2.2; clear hh
        have hh := Bag.cs3 S10.out 1 rfl
        have f3 := hh.1; have f4 := hh.2.1; have f5 := hh.2.2; clear hh
        have hh := Bag.cs3 S10.out 2 rfl
        have f6 := hh.1; have f7 := hh.2.1; have f8 := hh.2.2; clear hh
        have hh := Bag.cs3 S10.out 3 rfl
        have f9 := hh.1; have f10 := hh.2.1; have f11 := hh.2.2; clear hh
        have hh := HBS.out _ S10.out.old
        have f12 := hh.1; have f13 := hh.2.1; have f14 := hh.2.2; clear hh
        cases b with
        | false =>
          go_wp2_with fail
          go_ret
          exact ⟨rfl, HW.out.trans (S10.out.old.mono HW.out.size)⟩
        | true =>
          go_wp2_with fail
          go_ret
          exact ⟨rfl, HW.out.trans (S10.out.old.mono HW.out.size)⟩

set_option maxRecDepth 100000 in
theorem lifted (os : Os) (started : os.Started) (H : Type) (enc : TypeId × Value → H) :
    ReturnsInHanded {} Try.checked os 4 .any (Rows.fnIndexesSpec.pre6 enc Try.prog Try.f4 Rows.fnIndexesRow.domain false) (Rows.fnIndexesSpec.post enc Try.prog Try.f4 false true false false) := by
  refine returnsInHanded_of_change_sized (C := Try.checked) own started (by kernel_rfl) Try.func4
    (ChangeSpec.witness6 (enc := enc) (C := Try.checked) false ⟨#[], #[.slice none 0 0], []⟩ 8 (by kernel_rfl) (by kernel_rfl) (by kernel_rfl) (by kernel_rfl)) ?_
  intro W base args ds gs before hval0 hW _ hsz0 _
  have hval : ∀ (j : Nat) t v, Try.f4.params[j]? = some t → args[j]? = some v → Value.okWide Try.prog W .any base t v := hval0
  have hW' := hW
  obtain ⟨p, q, hA0, hV, rfl, _, _⟩ := hW
  have hA : DataW.TrodAll enc Try.prog W 0 (fun _ => true) true Try.f4.params.toList args.toList ds p := hA0
  obtain ⟨rfl, rfl⟩ := trodVars_none hV
  have hlt : ∀ x ∈ p, x.block < W.heap.size := fun x hx => hW'.lt x (by simpa using hx)
  simp only [List.append_nil] at hW'
  have hw := walk H enc W base args ds p hval hA hlt hsz0
  have hA1 := hA
  clear hA0 hval0 hsz0 hval hlt
  rw [Try.params4] at hA
  obtain ⟨v0, vs0, d0, ds0, p0, q0, e0, rfl, rfl, h0, hr0⟩ := trodAll_cons hA
  obtain ⟨e1, rfl, rfl⟩ := trodAll_nil hr0
  refine hw.mono fun e W' ⟨he, hb⟩ => ?_
  subst he
  exact ⟨_, rfl, Frame.law_post (tb := 4) rfl hW' hA1 rfl rfl rfl laidOut (by kernel_rfl) (by kernel_rfl) Try.underlying4 hb⟩

theorem holds : Rows.FnIndexesSaid :=
  OpenClaim.holds_of_wide 4 Try.f4 rfl rfl rfl rfl rfl rfl rfl ⟨rfl, rfl, rfl, rfl, rfl⟩ rfl rfl rfl rfl rfl (by kernel_rfl) Try.func4 (by kernel_rfl)
    (of_decide_eq_true (by kernel_rfl)) (by unfold Func.isWrapper; first | (rw [if_pos (by decide +kernel)]; kernel_rfl) | (rw [if_neg (by decide +kernel)]; exact ⟨rfl, rfl⟩))
    (fun os started H enc _ => lifted os started H enc)

#print axioms holds
end Go.Proofs.Ytmnedjhfibmcnaa.lawFnIndexes
