/-
  What the law FnExactStartTx needs, laid by my program lawpack.py, part 4: the texts L7Sd, L8Sa, VlStore, L10Se, L9Ia, L10Ia, CeOp, CeStore, CeTx, L5Cp, CeItem, L6Ia, L10Ic, VlIndexDef, L8Ia, VString, Shelf, L9Ii, Join, L10Ie, one behind the other; each begins with its own words.
-/
import Derived.Test.YthljdhfgphebnaaGreatFnExactStartTxP3
set_option linter.unusedSimpArgs false
set_option linter.unusedVariables false
set_option maxRecDepth 100000
namespace Go.Proofs.YthljdhfgphebnaaGreat.L7
open L4 (K isK cmpK R inR encU)
open L5 (F isR isN cellsF encR eqR Small getO getN getB)
open L6
open Go.ChangeShapes Go.WideShapes Go.ChangeAt Go.RowKit Mem Sl Ex L2 Sv Bag

theorem FitC.to {x : Cu} (h : FitC x) (k : K) (hk : k.text.size ≤ 281474976710656) : FitC (x.to k) := ⟨h.lo, h.hi, hk⟩
end Go.Proofs.YthljdhfgphebnaaGreat.L7

namespace Go.Proofs.YthljdhfgphebnaaGreat.L8
open V L6 L7
open L4 (K isK cmpK)
open L5 (F isR isN string_geq)
open Go.Op (bytesLess)
open Go.ChangeShapes Go.WideShapes Go.ChangeAt Go.RowKit Mem Sl Ex L2 Sv Bag

set_option maxHeartbeats 2000000 in
theorem specFindStore_any (z : Y_Database) (n : ByteArray) (hf : FitD (co_Database z)) (w : World) (hr : RowsRd w w.heap.size (rw_Database z)) :
  Calls Tryz.prog 31 #[vv_Database z, .string n] w fun e w' => e = .returned (.int .i64 (numO (fndS (co_Database z).f_Stores n))) ∧ Below w.heap.size w w' := by
 have HR : Hid (∀ w' (h : Below w.heap.size w w'), Reads w' w.heap.size z.f_Stores_a (z.f_Stores.flatMap cl_Store)) := Lib.hid (fun w' h => (rdS hr).below h)
 have HX : Hid (∀ w' (h : Below w.heap.size w w'), RowsRd w' w'.heap.size (rws_Store z.f_Stores)) := Lib.hid (fun w' h => ((rdX hr).below h).more h.size)
 have HU : Hid (∀ w' (h : Below w.heap.size w w'), Reads w' w.heap.size z.f_Unique_a (z.f_Unique.flatMap cl_IndexDef)) := Lib.hid (fun w' h => (rdU hr).below h)
 have HFD := Lib.hid hf
 have HFDl : z.f_Stores.length ≤ 1048576 := by have h := hf.len; rwa [co_len] at h
 have HFDm : z.f_Unique.length ≤ 1048576 := hf.many
 clear hf hr
 obtain ⟨name, ver, sa, sc, ss, ua, uc, us⟩ := z
 dsimp only [co_Database] at HR HX HU HFD HFDl HFDm
 try unfold vv_Database
 try unfold co_Database
 try dsimp only
 try rw [show coS_IndexDef us = us from rfl]
 rw [show coS_IndexDef us = us from rfl] at HFD
 obtain ⟨N, hN⟩ : ∃ n, n = ss.length := ⟨_, rfl⟩
 obtain ⟨M, hM⟩ : ∃ n, n = us.length := ⟨_, rfl⟩
 rw [← hN] at HFDl ⊢
 rw [← hM] at HFDm ⊢
 have HFDl' : (N : Int) ≤ 1048576 := by omega
 have HFDm' : (M : Int) ≤ 1048576 := by omega
 have HN := Lib.hid hN
 have HM := Lib.hid hM
 clear hN hM
 have S1 := Lib.hid (show Sl.Sep w _ [_] from L4.push_box (Sl.Sep.start w) 33 #[.string name, .int .i64 ver, .slice sa N sc, .slice ua M uc] (w.heap.size) (by simp))
 obtain ⟨wa, hwa⟩ : ∃ u, u = (w.alloc (.cells #[.string name, .int .i64 ver, .slice sa N sc, .slice ua M uc] 33)) := ⟨_, rfl⟩
 rw [← hwa] at S1
 go_enter Tryz.func31, Tryz.ntmps31
 go_upto_region 1 with fail
 rw [← hwa]
 clear hwa
 go_wp2_with fail
 go_loopw [5] (fun i wr => ∃ k : Nat, k ≤ N ∧ i = .int .i64 k ∧ Hid ((∀ j (hj : j < (coS_Store ss).length), j < k → hasN n (coS_Store ss)[j] = false) ∧ Sl.Sep w wr [L4.boxR w.heap.size 33 #[.string name, .int .i64 ver, .slice sa N sc, .slice ua M uc]])) (fun i _ => N - (intOf i).toNat)
 case atStart => exact ⟨0, Nat.zero_le _, rfl, And.intro (fun j hj h => absurd h (by omega)) S1.out⟩
 case round =>
  obtain ⟨k, hk, rfl, hrel⟩ := hrel
  have HA := Lib.hid hrel.out.1
  have S2 := Lib.hid hrel.out.2
  clear hrel S1
  by_cases hlt : (k : Int) < (N : Int)
  ·
   skip
   have hkl : k < ss.length := by have := HN.out; omega
   obtain ⟨x, hx⟩ : ∃ x, ss[k]? = some x := ⟨_, List.getElem?_eq_getElem hkl⟩
   obtain ⟨sad, e'⟩ := el_some cl_Store_len (by decide) (HR.out _ S2.out.old) hkl
   subst e'
   have HKx := Lib.hid (fun w' (h : Below w.heap.size w w') => el3 cl_Store_len (HR.out _ h) hx rfl)
   have HRx := Lib.hid (fun w' (h : Below w.heap.size w w') => rd_store (HX.out w' h) hx)
   have HFx := Lib.hid (fit_store HFD.out.stores hx)
   have HCx := Lib.hid (coS_at hx)
   clear hx
   have hci : k < (coS_Store ss).length := by rw [coS_len]; exact hkl
   have HC := Lib.hid (show (coS_Store ss)[k] = x.con from (List.getElem?_eq_some_iff.1 HCx.out).2)
   obtain ⟨b, hb⟩ : ∃ b, (x.name.toList == n.toList) = b := ⟨_, rfl⟩
   have HB := Lib.hid (show hasN n (coS_Store ss)[k] = b from by rw [HC.out]; exact hb)
   obtain ⟨f0, f1, f2, f3⟩ := Bag.cs4 S2.out 0 rfl
   obtain ⟨f4, f5, f6⟩ := HKx.out _ S2.out.old
   cases b with
   | true =>
    go_wp2_with fail
    go_ret
    exact ⟨by unfold fndS; rw [idx_at k hci HB.out HA.out]; rfl, S2.out.old⟩
   | false =>
    go_wp2_with fail
    go_roundw
    case rel => exact ⟨k + 1, by omega, by go_num, And.intro (fun j hj h => by
     by_cases e : j < k
     ·
      exact HA.out j hj e
     ·
      obtain rfl : j = k := by omega
      exact HB.out) S2.out⟩
    case measure => simp [intOf]; omega
  ·
   skip
   obtain ⟨f0, f1, f2, f3⟩ := Bag.cs4 S2.out 0 rfl
   obtain rfl : k = N := by omega
   go_wp2_with fail
   go_ret
   exact ⟨by unfold fndS; rw [idx_none (fun j hj => HA.out j hj (by have := HN.out; rw [coS_len] at hj; omega))]; rfl, S2.out.old⟩
end Go.Proofs.YthljdhfgphebnaaGreat.L8

namespace Go.Proofs.YthljdhfgphebnaaGreat.V
open Go.ChangeShapes Go.WideShapes Go.ChangeAt Go.RowKit Mem Sl Sv Bag
def Tests_Store (Fn g : Nat) (f : L6.LS → Bool) (xs : List L6.LS) (w : World) : Prop :=
 ∀ x ∈ xs, ∀ w', Below w.heap.size w w' → Calls Tryz.prog Fn #[vv_Store x, .pointer (some ⟨g, 0, none⟩)] w' fun e w'' => e = .returned (.bool (f x)) ∧ Below w'.heap.size w' w''
def TestsC_Store (Fn g : Nat) (f : L6.LS → Bool) (xs : List L6.LS) (w : World) : Prop :=
 ∀ x ∈ xs, ∀ w', w.heap.size ≤ w'.heap.size → w'.heap[g]? = w.heap[g]? → Calls Tryz.prog Fn #[vv_Store x, .pointer (some ⟨g, 0, none⟩)] w' fun e w'' => e = .returned (.bool (f x)) ∧ Below w'.heap.size w' w''
theorem TestsC_Store.below {Fn g : Nat} {f : L6.LS → Bool} {xs : List L6.LS} {w : World} (h : TestsC_Store Fn g f xs w) (hg : g < w.heap.size) : Tests_Store Fn g f xs w := fun x hx w' hb => h x hx w' hb.size (hb.block g hg)
set_option maxHeartbeats 2000000 in
theorem indexFunc_Store (g : Nat) (f : L6.LS → Bool) (a : Option Addr) (c : Nat) (xs : List L6.LS) (hl : xs.length ≤ 1048576) (w : World) (hr : Reads w w.heap.size a ((xs).flatMap cl_Store)) (hp : Tests_Store 146 g f xs w) :
  Calls Tryz.prog 145 #[.slice a xs.length c, .func (.func 146) #[] #[.pointer (some ⟨g, 0, none⟩)]] w fun e w' => e = .returned (.int .i64 (ixV f xs)) ∧ Below w.heap.size w w' := by
 have HR := Lib.hid (fun w' (h : Below w.heap.size w w') => hr.below h)
 have HP := Lib.hid hp
 obtain ⟨N, hN⟩ : ∃ n, n = xs.length := ⟨_, rfl⟩
 rw [← hN] at hl ⊢
 have hl' : (N : Int) ≤ 1048576 := by omega
 have HN := Lib.hid hN
 clear hN hr hp
 have S1 := Lib.hid (show Sl.Sep w w [] from Sl.Sep.start w)
 go_enter Tryz.func145, Tryz.ntmps145
 go_wp2_with fail
 go_loopw [8] (fun i wr => ∃ k : Nat, k ≤ N ∧ i = .int .i64 k ∧ Hid ((∀ (j : Nat) (y : L6.LS), xs[j]? = some y → j < k → f y = false) ∧ Sl.Sep w wr [])) (fun i _ => N - (intOf i).toNat)
 case atStart => exact ⟨0, Nat.zero_le _, rfl, And.intro (fun j y hj h => absurd h (by omega)) S1.out⟩
 case round =>
  obtain ⟨k, hk, rfl, hrel⟩ := hrel
  have HA := Lib.hid hrel.out.1
  have S2 := Lib.hid hrel.out.2
  clear hrel S1
  by_cases hlt : (k : Int) < (N : Int)
  ·
   skip
   have hkl : k < xs.length := by have := HN.out; omega
   obtain ⟨x, hx⟩ : ∃ x, xs[k]? = some x := ⟨_, List.getElem?_eq_getElem hkl⟩
   obtain ⟨ad, e'⟩ := el_some cl_Store_len (by decide) (HR.out _ S2.out.old) hkl
   subst e'
   have HKx := Lib.hid (fun w' (h : Below w.heap.size w w') => el3 cl_Store_len (HR.out _ h) hx rfl)
   have HXx := Lib.hid hx
   clear hx
   have HPX := fun w' (h : Below w.heap.size w w') => HP.out x (List.mem_of_getElem? HXx.out) w' h
   dsimp only [vv_Store] at HPX
   obtain ⟨b, hb⟩ : ∃ b, f x = b := ⟨_, rfl⟩
   rw [hb] at HPX
   replace HPX := Lib.hid HPX
   have HB := Lib.hid hb
   clear hb
   obtain ⟨f0, f1, f2⟩ := HKx.out _ S2.out.old
   go_wp2_with fail
   go_at_call 146
   refine (HPX.out _ S2.out.old).mono ?_
   rintro e w3 ⟨rfl, hb⟩
   clear f0 f1 f2
   have S3 := Lib.hid (S2.out.keep hb)
   clear S2
   clear hb
   cases b with
   | true =>
    go_wp2_with fail
    go_ret
    exact ⟨by rw [ixV_at k _ HXx.out HB.out HA.out]; rfl, S3.out.old⟩
   | false =>
    go_wp2_with fail
    go_roundw
    case rel => exact ⟨k + 1, by omega, by go_num, And.intro (fun j y hj h => by
     by_cases e : j < k
     ·
      exact HA.out j y hj e
     ·
      obtain rfl : j = k := by omega
      rw [HXx.out] at hj; rw [← Option.some.inj hj]; exact HB.out) S3.out⟩
    case measure => simp [intOf]; omega
  ·
   skip
   go_wp2_with fail
   go_ret
   obtain rfl : k = N := by omega
   exact ⟨by rw [ixV_none (fun j y hj => HA.out j y hj (by have := HN.out; have := (List.getElem?_eq_some_iff.1 hj).1; omega))]; rfl, S2.out.old⟩
end Go.Proofs.YthljdhfgphebnaaGreat.V

set_option linter.unusedSimpArgs false
namespace Go.Proofs.YthljdhfgphebnaaGreat.L10
open V L6 L9
open L4 (K isK cmpK)
open L5 (F isR isN string_geq)
open Go.Op (bytesLess)
open Go.ChangeShapes Go.WideShapes Go.ChangeAt Go.RowKit Mem Sl Ex L2 Sv Bag
open L8 (FitD fndS numO rdS rdX rdU co_len rd_store fit_store coS_at)

theorem infoS_Store : ∃ i, Tryz.prog.info? 70 = some i ∧ i.zero = some (.agg #[.string ⟨#[]⟩, .slice none 0 0, .int .i64 0]) ∧ i.size = 3 ∧ i.bytes = 48 := Ex.infoOf _ _ _ _ (by kernel_rfl)
set_option maxHeartbeats 8000000 in
theorem specStartTx_any (z : Y_Database) (hf : FitD (co_Database z)) (a : Option Addr) (c : Nat) (ts : List Y_Tx) (hl : ts.length ≤ 1048576) (hft : ∀ t ∈ coS_Tx ts, FitT t) (i : Int) (w : World) (hr : RowsRd w w.heap.size (rw_Database z)) (hrt : Reads w w.heap.size a (ts.flatMap cl_Tx)) (hxt : RowsRd w w.heap.size (rws_Tx ts)) :
  Calls Tryz.prog 22 #[vv_Database z, .agg #[.slice a ts.length c], .int .i64 i] w (GaveQB w (stX (co_Database z) (coS_Tx ts) i) (csQ (coS_Tx ts) i)) := by
 have HFS := Lib.hid (fun (n : ByteArray) w' (h : Below w.heap.size w w') => L8.specFindStore_any z n hf w' ((hr.below h).more h.size))
 unfold vv_Database co_Database at HFS
 have HCQ := Lib.hid (fun w' (h : Below w.heap.size w w') => l10Copy_any a c ts hl hft w' ((hrt.below h).more h.size) ((hxt.below h).more h.size))
 have HCS := Lib.hid (fun w' (h : Below w.heap.size w w') => specCanStart_any a c ts hl hft i w' ((hrt.below h).more h.size) ((hxt.below h).more h.size))
 obtain ⟨b, hb⟩ : ∃ b, csQ (coS_Tx ts) i = b := ⟨_, rfl⟩
 replace HCS := HCS.out
 rw [hb] at HCS
 replace HCS := Lib.hid HCS
 obtain ⟨RX, hRX⟩ : ∃ x, stX (co_Database z) (coS_Tx ts) i = x := ⟨_, rfl⟩
 rw [hb, hRX]
 have HB := Lib.hid hb
 have HRX := Lib.hid hRX
 clear hb hRX
 obtain ⟨dss, hdss⟩ : ∃ s, (co_Database z).f_Stores = s := ⟨_, rfl⟩
 have HDS := Lib.hid hdss
 clear hdss
 obtain ⟨DZ, hDZ⟩ : ∃ d, co_Database z = d := ⟨_, rfl⟩
 have HDZ := Lib.hid hDZ
 rw [hDZ] at HRX
 clear hDZ
 have HR : Hid (∀ w' (h : Below w.heap.size w w'), Reads w' w.heap.size z.f_Stores_a (z.f_Stores.flatMap cl_Store)) := Lib.hid (fun w' h => (rdS hr).below h)
 have HX : Hid (∀ w' (h : Below w.heap.size w w'), RowsRd w' w'.heap.size (rws_Store z.f_Stores)) := Lib.hid (fun w' h => ((rdX hr).below h).more h.size)
 have HU : Hid (∀ w' (h : Below w.heap.size w w'), Reads w' w.heap.size z.f_Unique_a (z.f_Unique.flatMap cl_IndexDef)) := Lib.hid (fun w' h => (rdU hr).below h)
 have HFD := Lib.hid hf
 have HFDl : z.f_Stores.length ≤ 1048576 := by have h := hf.len; rwa [co_len] at h
 have HFDm : z.f_Unique.length ≤ 1048576 := hf.many
 clear hf hr
 obtain ⟨name, ver, sa, sc, ss, ua, uc, us⟩ := z
 dsimp only [co_Database] at HR HX HU HFD HFDl HFDm
 try unfold vv_Database
 try unfold co_Database
 try dsimp only
 try rw [show coS_IndexDef us = us from rfl]
 rw [show coS_IndexDef us = us from rfl] at HFD
 obtain ⟨N, hN⟩ : ∃ n, n = ss.length := ⟨_, rfl⟩
 obtain ⟨M, hM⟩ : ∃ n, n = us.length := ⟨_, rfl⟩
 rw [← hN] at HFDl ⊢
 rw [← hM] at HFDm ⊢
 have HFDl' : (N : Int) ≤ 1048576 := by omega
 have HFDm' : (M : Int) ≤ 1048576 := by omega
 have HN := Lib.hid hN
 have HM := Lib.hid hM
 clear hN hM
 rw [← HN.out, ← HM.out] at HFS
 try dsimp only at HFS
 dsimp only [co_Database] at HDS HDZ
 have hlt0 := hl
 have HFTS := Lib.hid hft
 have HRT := Lib.hid (fun w' (h : Below w.heap.size w w') => hrt.below h)
 have HXT := Lib.hid (fun w' (h : Below w.heap.size w w') => (hxt.below h).more h.size)
 obtain ⟨NT, hNT⟩ : ∃ n, n = ts.length := ⟨_, rfl⟩
 rw [← hNT] at HCQ HCS hlt0 ⊢
 have hNTl : (NT : Int) ≤ 1048576 := by omega
 have HNT := Lib.hid hNT
 clear hNT hl hft hrt hxt
 obtain ⟨iS, hi1, hi2, hi3, hi4⟩ := infoS_Store
 have HIS := Lib.hid (And.intro hi1 (And.intro hi2 (And.intro hi3 hi4)))
 clear hi1 hi2 hi3 hi4
 have S1 := Lib.hid (show Sl.Sep w _ [_, _, _] from L4.push_box (L4.push_box (L4.push_box (Sl.Sep.start w) 33 #[.string name, .int .i64 ver, .slice sa N sc, .slice ua M uc] (w.heap.size) (by simp)) 56 #[.slice a NT c] (w.heap.size + 1) (by simp)) 56 #[.slice none 0 0] (w.heap.size + 1 + 1) (by simp))
 obtain ⟨wa, hwa⟩ : ∃ w_, w_ = (((w.alloc (.cells #[.string name, .int .i64 ver, .slice sa N sc, .slice ua M uc] 33)).alloc (.cells #[.slice a NT c] 56)).alloc (.cells #[.slice none 0 0] 56)) := ⟨_, rfl⟩
 rw [← hwa] at S1
 go_enter Tryz.func22, Tryz.ntmps22
 go_upto_region 1 with fail
 rw [← hwa]
 clear hwa
 obtain ⟨f0, f1, f2, f3⟩ := Bag.cs4 S1.out 0 rfl
 have f4 := Bag.cs1 S1.out 1 rfl
 have f5 := Bag.cs1 S1.out 2 rfl
 go_wp2_with fail
 go_at_call 50
 refine (HCQ.out _ S1.out.old).mono ?_
 rintro e w1 ⟨A1, C1, ys, rfl, hcy, ho, hb⟩
 clear f0 f1 f2 f3 f4 f5
 have S2 := Lib.hid (show Sl.Sep w _ [_, _, _, Bag.bag (rs_Tx A1 C1 ys)] from Bag.push_bag S1.out hb ho)
 clear S1
 clear hb ho
 have HCY := Lib.hid hcy
 clear hcy
 have HYL := Lib.hid (show ys.length = NT from by have h := congrArg List.length HCY.out; rw [coT_len, coT_len] at h; rw [h, HNT.out])
 obtain ⟨f0, f1, f2, f3⟩ := Bag.cs4 S2.out 0 rfl
 have f4 := Bag.cs1 S2.out 1 rfl
 go_upto_region 2 with fail
 clear f0 f1 f2 f3 f4
 have S3 := Lib.hid (show Sl.Sep w _ [_, _, _, _, _] from L4.push_box S2.out 56 #[.slice A1 ys.length C1] w1.heap.size rfl)
 clear S2
 obtain ⟨g1, hg⟩ : ∃ g', g' = w1.heap.size := ⟨_, rfl⟩
 rw [← hg] at S3 ⊢
 clear hg
 generalize w1.alloc (.cells #[.slice A1 ys.length C1] 56) = w2 at S3 ⊢
 obtain ⟨f0, f1, f2, f3⟩ := Bag.cs4 S3.out 0 rfl
 have f4 := Bag.cs1 S3.out 1 rfl
 have f5 := Bag.cs1 S3.out 2 rfl
 have f6 := Bag.cs1 S3.out 4 rfl
 go_wp2_with fail
 go_at_call 51
 refine (HCS.out _ S3.out.old).mono ?_
 rintro e w3 ⟨rfl, hb⟩
 clear f0 f1 f2 f3 f4 f5 f6
 have S4 := Lib.hid (S3.out.keep hb)
 clear S3
 clear hb
 cases b with
 | false =>
  have f0 := Bag.cs1 S4.out 2 rfl
  have f1 := Bag.cs1 S4.out 4 rfl
  have z0 := Bag.free_at S4.out 2 rfl 0
  go_wp2_with fail
  clear f0 f1 z0
  have S5 := Lib.hid (show Sl.Sep w _ [L4.boxR w.heap.size 33 #[.string name, .int .i64 ver, .slice sa N sc, .slice ua M uc], L4.boxR (w.heap.size + 1) 56 #[.slice a NT c], L4.boxR (w.heap.size + 1 + 1) 56 #[.slice A1 ys.length C1], Bag.bag (rs_Tx A1 C1 ys), L4.boxR g1 56 #[.slice A1 ys.length C1]] from L5.put_box5 (S4.out) 2 rfl 0 (.slice A1 ys.length C1))
  clear S4
  have f0 := Bag.cs1 S5.out 2 rfl
  refine bodyPost_ret (v := .tuple #[.agg #[.slice A1 ys.length C1], .bool false]) (by simp [results, Tryz.results22, go_sem, *]) rfl ?_
  clear f0
  exact ⟨A1, C1, ys, rfl, by rw [← HRX.out, stX_no HB.out]; exact HCY.out, Bag.bag_from S5.out 3 rfl, S5.out.old⟩
 | true =>
  obtain ⟨k0, t0, hk, hct, -⟩ := csQ_parts HB.out
  subst hk
  have hklt : k0 < ts.length := by have h := (List.getElem?_eq_some_iff.1 hct).1; rwa [coT_len] at h
  have hkly : k0 < ys.length := by have := HYL.out; have := HNT.out; omega
  obtain ⟨x, hx⟩ : ∃ x, ys[k0]? = some x := ⟨_, List.getElem?_eq_getElem hkly⟩
  have HCX := Lib.hid (show (coS_Tx ts)[k0]? = some (co_Tx x) from by rw [← HCY.out]; exact coT_at hx)
  have HSX := Lib.hid (stX_yes (d := DZ) HB.out HCX.out)
  have hkN : (k0 : Int) < (ys.length : Int) := by omega
  have hkNT : (k0 : Int) < (NT : Int) := by have := HNT.out; omega
  have hylb : ys.length ≤ 1048576 := by have := HYL.out; omega
  have HZT := Lib.hid (show ys = ys.take k0 ++ x :: ys.drop (k0 + 1) from by rw [← V.drop_next hx, List.take_append_drop])
  have HTL := Lib.hid (show (ys.take k0).length = k0 from by rw [List.length_take, Nat.min_eq_left (by omega)])
  clear hx hct t0
  obtain ⟨D0, hD0⟩ : ∃ D0, D0 = (ys.take k0).flatMap cl_Tx := ⟨_, rfl⟩
  obtain ⟨R0, hR0⟩ : ∃ R0, R0 = (ys.drop (k0 + 1)).flatMap cl_Tx := ⟨_, rfl⟩
  have HD0 := Lib.hid hD0
  have HR0 := Lib.hid hR0
  have HDL := Lib.hid (show D0.length = k0 * 5 from by rw [hD0, V.flat_len cl_Tx_len, HTL.out])
  clear hD0 hR0
  have S5 := Lib.hid (show Sl.Sep w _ [L4.boxR w.heap.size 33 #[.string name, .int .i64 ver, .slice sa N sc, .slice ua M uc], L4.boxR (w.heap.size + 1) 56 #[.slice a NT c], L4.boxR (w.heap.size + 1 + 1) 56 #[.slice none 0 0], Bag.bag ([row_Tx A1 C1 ys] ++ rws_Tx ys), L4.boxR g1 56 #[.slice A1 ys.length C1]] from S4.out)
  clear S4
  have S6 := Lib.hid (show Sl.Sep w _ [_, _, _, Bag.bag ([row_Tx A1 C1 ys]), _, Bag.bag (rws_Tx ys)] from Bag.bag_split S5.out 3 rfl)
  clear S5
  have S7 := Lib.hid (show Sl.Sep w _ [_, _, _, Sv.ownV 89 5 A1 C1 ys.length (ys.flatMap cl_Tx), _, _] from Bag.one_of_bag S6.out 3 (r := row_Tx A1 C1 ys) rfl)
  clear S6
  obtain ⟨gq, e1⟩ : ∃ g, A1 = some ⟨g, 0, none⟩ := by
   rcases (Sv.own_at S7.out 3 rfl).form with ⟨_, h0, _⟩ | ⟨g, e, _⟩
   ·
    omega
   ·
    exact ⟨g, e⟩
  subst e1
  have S8 := Lib.hid (show Sl.Sep w _ [_, _, _, Sv.ownV 89 5 (some ⟨gq, 0, none⟩) C1 ys.length (D0 ++ (.int .i64 x.f_Id :: .slice x.f_Ops_a x.f_Ops.length x.f_Ops_c :: .int .i64 x.f_At :: .int .i64 x.f_State :: .slice x.f_Backup_a x.f_Backup.length x.f_Backup_c :: R0)), L4.boxR g1 56 #[.slice (some ⟨gq, 0, none⟩) ys.length C1], _] from (by have h := S7.out; rw [show ys.flatMap cl_Tx = D0 ++ (.int .i64 x.f_Id :: .slice x.f_Ops_a x.f_Ops.length x.f_Ops_c :: .int .i64 x.f_At :: .int .i64 x.f_State :: .slice x.f_Backup_a x.f_Backup.length x.f_Backup_c :: R0) from by (conv => lhs; rw [HZT.out, List.flatMap_append, List.flatMap_cons, ← HD0.out, ← HR0.out]); rfl] at h; exact h))
  clear S7
  have S9 := Lib.hid (show Sl.Sep w _ [L4.boxR w.heap.size 33 #[.string name, .int .i64 ver, .slice sa N sc, .slice ua M uc], L4.boxR (w.heap.size + 1) 56 #[.slice a NT c], L4.boxR (w.heap.size + 1 + 1) 56 #[.slice none 0 0], Sv.ownV 89 5 (some ⟨gq, 0, none⟩) C1 ys.length (D0 ++ (.int .i64 x.f_Id :: .slice x.f_Ops_a x.f_Ops.length x.f_Ops_c :: .int .i64 x.f_At :: .int .i64 x.f_State :: .slice x.f_Backup_a x.f_Backup.length x.f_Backup_c :: R0)), L4.boxR g1 56 #[.slice (some ⟨gq, 0, none⟩) ys.length C1], Bag.bag ((rws_Tx (ys.take k0) ++ rws_Tx (ys.drop (k0 + 1))) ++ rw_Tx x)] from Bag.bag_perm S8.out 5 rfl (by rw [show rws_Tx ys = (ys.take k0).flatMap rw_Tx ++ (x :: ys.drop (k0 + 1)).flatMap rw_Tx from by conv => lhs; rw [HZT.out, rws_Tx_eq, List.flatMap_append]]; exact V.flat_out _ _ _))
  clear S8
  have S10 := Lib.hid (show Sl.Sep w _ [_, _, _, _, _, Bag.bag (rws_Tx (ys.take k0) ++ rws_Tx (ys.drop (k0 + 1))), Bag.bag (rs_Op x.f_Ops_a x.f_Ops_c x.f_Ops ++ rs_Store x.f_Backup_a x.f_Backup_c x.f_Backup)] from Bag.bag_split S9.out 5 rfl)
  clear S9
  have S11 := Lib.hid (show Sl.Sep w _ [_, _, _, _, _, _, Bag.bag (rs_Op x.f_Ops_a x.f_Ops_c x.f_Ops), Bag.bag (rs_Store x.f_Backup_a x.f_Backup_c x.f_Backup)] from Bag.bag_split S10.out 6 rfl)
  clear S10
  have S12 := Lib.hid (show Sl.Sep w _ [_, _, _, _, _, _, _] from Bag.take S11.out [0, 1, 2, 3, 4, 5, 6] (by rfl) (by decide))
  clear S11
  have f0 := Bag.cs1 S12.out 4 rfl
  have q3 : World.cell? w3 ⟨gq, k0 * 5 + 3, none⟩ = some (.int .i64 x.f_State) := (by rw [(Sv.own_at S12.out 3 rfl).cell (k0 * 5 + 3) (by rw [List.length_append, HDL.out]; simp <;> omega)]; simp [List.getElem_append, HDL.out])
  have y3 := (Sv.own_at S12.out 3 rfl).free (k0 * 5 + 3)
  go_upto_region 5 with fail
  clear f0 q3 y3
  have HOV := Lib.hid (show Run.over (D0 ++ (.int .i64 x.f_Id :: .slice x.f_Ops_a x.f_Ops.length x.f_Ops_c :: .int .i64 x.f_At :: .int .i64 x.f_State :: .slice x.f_Backup_a x.f_Backup.length x.f_Backup_c :: R0)) (k0 * 5 + 3) [.int .i64 1] = D0 ++ (.int .i64 x.f_Id :: .slice x.f_Ops_a x.f_Ops.length x.f_Ops_c :: .int .i64 x.f_At :: .int .i64 1 :: .slice x.f_Backup_a x.f_Backup.length x.f_Backup_c :: R0) from by rw [show D0 ++ (.int .i64 x.f_Id :: .slice x.f_Ops_a x.f_Ops.length x.f_Ops_c :: .int .i64 x.f_At :: .int .i64 x.f_State :: .slice x.f_Backup_a x.f_Backup.length x.f_Backup_c :: R0) = (D0 ++ ([.int .i64 x.f_Id, .slice x.f_Ops_a x.f_Ops.length x.f_Ops_c, .int .i64 x.f_At] : List Value)) ++ ([.int .i64 x.f_State] ++ (.slice x.f_Backup_a x.f_Backup.length x.f_Backup_c :: R0)) from by simp, Run.over_mid (D0 ++ ([.int .i64 x.f_Id, .slice x.f_Ops_a x.f_Ops.length x.f_Ops_c, .int .i64 x.f_At] : List Value)) (.slice x.f_Backup_a x.f_Backup.length x.f_Backup_c :: R0) [.int .i64 1] [.int .i64 x.f_State] (k0 * 5 + 3) (by simp [HDL.out]) rfl]; simp)
  have S13 := Lib.hid (show Sl.Sep w (w3.setCell ⟨gq, k0 * 5 + 3, none⟩ (.int .i64 1)) [_, _, _, Sv.ownV 89 5 (some ⟨gq, 0, none⟩) C1 ys.length (D0 ++ (.int .i64 x.f_Id :: .slice x.f_Ops_a x.f_Ops.length x.f_Ops_c :: .int .i64 x.f_At :: .int .i64 1 :: .slice x.f_Backup_a x.f_Backup.length x.f_Backup_c :: R0)), _, _, _] from (by have h := Run.put_run S12.out 3 rfl (k0 * 5 + 3) [.int .i64 1] (by rw [List.length_append, HDL.out]; simp <;> omega); rw [HOV.out] at h; exact h))
  clear S12
  clear HOV
  generalize (w3.setCell ⟨gq, k0 * 5 + 3, none⟩ (.int .i64 1)) = w4 at S13 ⊢
  have f0 := Bag.cs1 S13.out 4 rfl
  have S14 := Lib.hid (show Sl.Sep w _ [_, _, _, _, _, _, _, Sv.ownV 70 3 (some ⟨w4.heap.size, 0, none⟩) 0 0 (([] : List LS).flatMap cl_Store)] from Sv.push_own S13.out ((Below.refl _ _).alloc (Nat.le_refl _) _) (OwnV.madeAt w4 70 3 0 w4.heap.size #[] rfl (Nat.le_refl _) rfl (by decide)))
  clear S13
  have q4 : World.cell? (w4.alloc (.cells #[] 70)) ⟨gq, k0 * 5 + 4, none⟩ = some (.slice x.f_Backup_a x.f_Backup.length x.f_Backup_c) := (by rw [(Sv.own_at S14.out 3 rfl).cell (k0 * 5 + 4) (by rw [List.length_append, HDL.out]; simp <;> omega)]; simp [List.getElem_append, HDL.out])
  have y4 := (Sv.own_at S14.out 3 rfl).free (k0 * 5 + 4)
  go_upto_region 6 with fail
  clear q4 y4
  clear f0
  have HOV := Lib.hid (show Run.over (D0 ++ (.int .i64 x.f_Id :: .slice x.f_Ops_a x.f_Ops.length x.f_Ops_c :: .int .i64 x.f_At :: .int .i64 1 :: .slice x.f_Backup_a x.f_Backup.length x.f_Backup_c :: R0)) (k0 * 5 + 4) [.slice (some ⟨w4.heap.size, 0, none⟩) 0 0] = D0 ++ (.int .i64 x.f_Id :: .slice x.f_Ops_a x.f_Ops.length x.f_Ops_c :: .int .i64 x.f_At :: .int .i64 1 :: .slice (some ⟨w4.heap.size, 0, none⟩) 0 0 :: R0) from by rw [show D0 ++ (.int .i64 x.f_Id :: .slice x.f_Ops_a x.f_Ops.length x.f_Ops_c :: .int .i64 x.f_At :: .int .i64 1 :: .slice x.f_Backup_a x.f_Backup.length x.f_Backup_c :: R0) = (D0 ++ ([.int .i64 x.f_Id, .slice x.f_Ops_a x.f_Ops.length x.f_Ops_c, .int .i64 x.f_At, .int .i64 1] : List Value)) ++ ([.slice x.f_Backup_a x.f_Backup.length x.f_Backup_c] ++ (R0)) from by simp, Run.over_mid (D0 ++ ([.int .i64 x.f_Id, .slice x.f_Ops_a x.f_Ops.length x.f_Ops_c, .int .i64 x.f_At, .int .i64 1] : List Value)) (R0) [.slice (some ⟨w4.heap.size, 0, none⟩) 0 0] [.slice x.f_Backup_a x.f_Backup.length x.f_Backup_c] (k0 * 5 + 4) (by simp [HDL.out]) rfl]; simp)
  have S15 := Lib.hid (show Sl.Sep w ((w4.alloc (.cells #[] 70)).setCell ⟨gq, k0 * 5 + 4, none⟩ (.slice (some ⟨w4.heap.size, 0, none⟩) 0 0)) [L4.boxR w.heap.size 33 #[.string name, .int .i64 ver, .slice sa N sc, .slice ua M uc], L4.boxR (w.heap.size + 1) 56 #[.slice a NT c], L4.boxR (w.heap.size + 1 + 1) 56 #[.slice none 0 0], Sv.ownV 89 5 (some ⟨gq, 0, none⟩) C1 ys.length (D0 ++ (.int .i64 x.f_Id :: .slice x.f_Ops_a x.f_Ops.length x.f_Ops_c :: .int .i64 x.f_At :: .int .i64 1 :: .slice (some ⟨w4.heap.size, 0, none⟩) 0 0 :: R0)), L4.boxR g1 56 #[.slice (some ⟨gq, 0, none⟩) ys.length C1], Bag.bag (rws_Tx (ys.take k0) ++ rws_Tx (ys.drop (k0 + 1))), Bag.bag (rs_Op x.f_Ops_a x.f_Ops_c x.f_Ops), Sv.ownV 70 3 (some ⟨w4.heap.size, 0, none⟩) 0 0 (([] : List LS).flatMap cl_Store)] from (by have h := Run.put_run S14.out 3 rfl (k0 * 5 + 4) [.slice (some ⟨w4.heap.size, 0, none⟩) 0 0] (by rw [List.length_append, HDL.out]; simp <;> omega); rw [HOV.out] at h; exact h))
  clear S14
  clear HOV
  generalize ((w4.alloc (.cells #[] 70)).setCell ⟨gq, k0 * 5 + 4, none⟩ (.slice (some ⟨w4.heap.size, 0, none⟩) 0 0)) = w5 at S15 ⊢
  have S16 := Lib.hid (show Sl.Sep w _ [L4.boxR w.heap.size 33 #[.string name, .int .i64 ver, .slice sa N sc, .slice ua M uc], L4.boxR (w.heap.size + 1) 56 #[.slice a NT c], L4.boxR (w.heap.size + 1 + 1) 56 #[.slice none 0 0], Sv.ownV 89 5 (some ⟨gq, 0, none⟩) C1 ys.length (D0 ++ (.int .i64 x.f_Id :: .slice x.f_Ops_a x.f_Ops.length x.f_Ops_c :: .int .i64 x.f_At :: .int .i64 1 :: .slice (some ⟨w4.heap.size, 0, none⟩) 0 0 :: R0)), L4.boxR g1 56 #[.slice (some ⟨gq, 0, none⟩) ys.length C1], Bag.bag (rws_Tx (ys.take k0) ++ rws_Tx (ys.drop (k0 + 1))), Bag.bag (rs_Op x.f_Ops_a x.f_Ops_c x.f_Ops), Sv.ownV 70 3 (some ⟨w4.heap.size, 0, none⟩) 0 0 (([] : List LS).flatMap cl_Store), Bag.bag (rws_Store [])] from Bag.push_bag S15.out (Below.refl _ _) (Bag.BagOwn.nil _ _))
  clear S15
  obtain ⟨xt, hxt0⟩ : ∃ x, ts[k0]? = some x := ⟨_, List.getElem?_eq_getElem hklt⟩
  obtain ⟨tad, e'⟩ := el_some cl_Tx_len (by decide) (HRT.out _ S16.out.old) hklt
  subst e'
  have HKxt := Lib.hid (fun w' (h : Below w.heap.size w w') => el5 cl_Tx_len (HRT.out _ h) hxt0 rfl)
  have HRxt := Lib.hid (fun w' (h : Below w.heap.size w w') => rdTs (HXT.out w' h) hxt0)
  have HXE := Lib.hid (show co_Tx xt = co_Tx x from Option.some.inj ((coT_at hxt0).symm.trans HCX.out))
  have HFX := Lib.hid (HFTS.out _ (List.mem_of_getElem? (coT_at hxt0)))
  clear hxt0
  have HSC := fun w' (h : Below w.heap.size w w') => specScopeOf_any xt.f_Ops_a xt.f_Ops_c xt.f_Ops (by have h9 := HFX.out.len; rwa [show (co_Tx xt).f_Ops = coS_Op xt.f_Ops from rfl, coS_len] at h9) HFX.out.ops w' (rdTo (HRxt.out w' h)) (rdTox (HRxt.out w' h))
  have HOE := Lib.hid (show coS_Op xt.f_Ops = (co_Tx x).f_Ops from by rw [← HXE.out]; rfl)
  obtain ⟨ns, hns⟩ : ∃ s, L9s.scopeN (nmO (coS_Op xt.f_Ops)) = s := ⟨_, rfl⟩
  rw [hns] at HSC
  replace HSC := Lib.hid HSC
  have hnl : ns.length ≤ 1048576 := by have h1 := L9s.length_scopeN (nmO (coS_Op xt.f_Ops)); have h2 := HFX.out.len; rw [hns, nmO_len] at h1; rw [show (co_Tx xt).f_Ops = coS_Op xt.f_Ops from rfl] at h2; omega
  have HNS := Lib.hid (show L9s.scopeN (nmO (co_Tx x).f_Ops) = ns from by rw [← HOE.out]; exact hns)
  clear hns
  obtain ⟨L, hL⟩ : ∃ n, n = ns.length := ⟨_, rfl⟩
  rw [← hL] at hnl
  have hl' : (L : Int) ≤ 1048576 := by omega
  have HL := Lib.hid hL
  clear hL
  have f0 := Bag.cs1 S16.out 1 rfl
  obtain ⟨f1, f2, f3, f4, f5⟩ := HKxt.out _ S16.out.old
  go_wp2_with fail
  go_at_call 52
  refine (HSC.out _ S16.out.old).mono ?_
  rintro e w6 ⟨na, nc, rfl, ho, hb⟩
  clear f0 f1 f2 f3 f4 f5
  have S17 := Lib.hid (show Sl.Sep w _ [_, L4.boxR (w.heap.size + 1) 56 #[.slice (some tad) NT c], _, _, _, _, _, _, _, Bag.bag ([rowT na nc ns])] from Bag.push_bag S16.out hb ho)
  clear S16
  clear hb ho
  rw [← HL.out]
  have S18 := Lib.hid (show Sl.Sep w _ [_, _, _, _, _, _, _, _, _, Sv.ownV 9 1 na nc L (cT ns)] from (by have h := Bag.one_of_bag S17.out 9 (r := rowT na nc ns) rfl; unfold RowS.res rowT at h; dsimp only at h; rw [← HL.out] at h; exact h))
  clear S17
  go_wp2_with fail
  go_loopw [10] (fun i wr => ∃ (k m : Nat) (BA : Option Addr) (BC : Nat) (zs : List LS), k ≤ L ∧ m ≤ k ∧ i = .int .i64 k ∧ Hid ((coS_Store zs = existS (coS_Store ss) (ns.take k) ∧ zs.length = m) ∧ Sl.Sep w wr [L4.boxR w.heap.size 33 #[.string name, .int .i64 ver, .slice sa N sc, .slice ua M uc], L4.boxR (w.heap.size + 1) 56 #[.slice (some tad) NT c], L4.boxR (w.heap.size + 1 + 1) 56 #[.slice none 0 0], Sv.ownV 89 5 (some ⟨gq, 0, none⟩) C1 ys.length (D0 ++ (.int .i64 x.f_Id :: .slice x.f_Ops_a x.f_Ops.length x.f_Ops_c :: .int .i64 x.f_At :: .int .i64 1 :: .slice BA m BC :: R0)), L4.boxR g1 56 #[.slice (some ⟨gq, 0, none⟩) ys.length C1], Bag.bag (rws_Tx (ys.take k0) ++ rws_Tx (ys.drop (k0 + 1))), Bag.bag (rs_Op x.f_Ops_a x.f_Ops_c x.f_Ops), Sv.ownV 70 3 BA BC m (zs.flatMap cl_Store), Bag.bag (rws_Store zs), Sv.ownV 9 1 na nc L (cT ns)])) (fun i _ => L - (intOf i).toNat)
  case atStart => exact ⟨0, 0, _, _, [], Nat.zero_le _, Nat.le_refl _, rfl, And.intro ⟨rfl, rfl⟩ S18.out⟩
  case round =>
   obtain ⟨k, m, BA, BC, zs, hk, hmk, rfl, hrel⟩ := hrel
   have HCC := Lib.hid hrel.out.1
   have S40 := Lib.hid hrel.out.2
   clear hrel S18
   by_cases hlt : (k : Int) < (L : Int)
   ·
    skip
    have hkn : k < ns.length := by have := HL.out; omega
    have hm6 : m ≤ 1048576 := by omega
    obtain ⟨nad, e2, -⟩ := readsT_at (Sv.own_at S40.out 9 rfl).reads k hkn
    subst e2
    obtain ⟨t, ht⟩ : ∃ t : ByteArray, t = ⟨ns[k].toArray⟩ := ⟨_, rfl⟩
    have HNK := Lib.hid (show ns[k]? = some ns[k] from List.getElem?_eq_getElem hkn)
    have HTC := Lib.hid (show (cT ns)[k]? = some (.string t) from by rw [ht]; unfold cT; rw [List.getElem?_map, HNK.out]; rfl)
    have HTT := Lib.hid ht
    clear ht
    have HFLY := Lib.hid (show (zs.flatMap cl_Store).length = m * 3 from by rw [V.flat_len cl_Store_len, HCC.out.2])
    have HFI := fun w' (h : Below w.heap.size w w') => HFS.out t w' h
    cases hfo : fndS (coS_Store ss) t with
    | none =>
     rw [hfo] at HFI
     dsimp only [numO] at HFI
     replace HFI := Lib.hid HFI
     have HEX := Lib.hid (exist_snoc_none HNK.out (by rw [← HTT.out]; exact hfo))
     clear hfo
     obtain ⟨f0, f1, f2, f3⟩ := Bag.cs4 S40.out 0 rfl
     have f4 : World.cell? _ (nad.add k) = some (.string t) := readsT_cell (Sv.own_at S40.out 9 rfl).reads k _ HTC.out
     go_upto_region 10 with fail
     clear f0 f1 f2 f3 f4
     refine wp_region_held_drew (S := (fun w' => (w'.cell? ⟨w.heap.size, 0, none⟩ = some (.string name) ∧ w'.cell? ⟨w.heap.size, 1, none⟩ = some (.int .i64 ver) ∧ w'.cell? ⟨w.heap.size, 2, none⟩ = some (.slice sa N sc) ∧ w'.cell? ⟨w.heap.size, 3, none⟩ = some (.slice ua M uc)) ∧ w'.cell? (nad.add k) = some (.string t))) (by kernel_rfl) ⟨Bag.cs4 (Bag.drew1 S40.out) 0 rfl, readsT_cell (Sv.own_at (Bag.drew1 S40.out) 9 rfl).reads k _ HTC.out⟩ (fun hS => ?_)
     have S41 := Lib.hid (Bag.drew1 S40.out)
     clear S40
     generalize World.drew _ = w7 at hS S41 ⊢
     refine tk 0 rfl ?_
     try simp only [zp0, zp1, zp2, zp3, zp4]
     refine tk 1 rfl ?_
     try simp only [zp0, zp1, zp2, zp3, zp4]
     refine tk 2 rfl ?_
     try simp only [zp0, zp1, zp2, zp3, zp4]
     refine tk 3 rfl ?_
     try simp only [zp0, zp1, zp2, zp3, zp4]
     refine tk 4 rfl ?_
     try simp only [zp0, zp1, zp2, zp3, zp4]
     refine Reg.one_op (i := 5) rfl (by kernel_rfl) (fun K hK => ?_)
     go_simp
     go_at_call 31
     refine (HFI.out _ S41.out.old).mono ?_
     rintro e w8 ⟨rfl, hb⟩
     have S42 := Lib.hid (S41.out.keep hb)
     clear S41
     clear hb
     go_wp2_with fail
     refine hK.out _ _ ⟨Bag.cs4 S42.out 0 rfl, readsT_cell (Sv.own_at S42.out 9 rfl).reads k _ HTC.out⟩ (fun hS => ?_)
     clear hK K
     try simp only [zp0, zp1, zp2, zp3, zp4]
     refine tk 6 rfl ?_
     try simp only [zp0, zp1, zp2, zp3, zp4]
     refine wpAnyH_done (by kernel_rfl) ?_ _
     obtain ⟨f0, f1, f2, f3⟩ := Bag.cs4 S42.out 0 rfl
     have f4 := Bag.cs1 S42.out 1 rfl
     have f5 := Bag.cs1 S42.out 2 rfl
     have f6 := Bag.cs1 S42.out 4 rfl
     have f7 : World.cell? _ (nad.add k) = some (.string t) := readsT_cell (Sv.own_at S42.out 9 rfl).reads k _ HTC.out
     clear f0 f1 f2 f3 f4 f5 f6 f7
     go_wp2_with fail
     go_roundw
     case rel => exact ⟨k + 1, m, BA, BC, zs, by omega, by omega, by go_num, And.intro ⟨by rw [HEX.out]; exact HCC.out.1, HCC.out.2⟩ S42.out⟩
     case measure => simp [intOf]; omega
    | some j =>
     have hjl : j < ss.length := by obtain ⟨h1, _⟩ := L8.idx_some hfo; rw [coS_Store_eq, List.length_map] at h1; exact h1
     have hjN : (j : Int) < (N : Int) := by have := HN.out; omega
     have hj0 : (0 : Int) ≤ (j : Int) := by omega
     rw [hfo] at HFI
     dsimp only [numO] at HFI
     replace HFI := Lib.hid HFI
     have HFO := Lib.hid hfo
     clear hfo
     obtain ⟨xs0, hxs0⟩ : ∃ x, ss[j]? = some x := ⟨_, List.getElem?_eq_getElem hjl⟩
     obtain ⟨sad, e'⟩ := el_some cl_Store_len (by decide) (HR.out _ S40.out.old) hjl
     subst e'
     have HKxs0 := Lib.hid (fun w' (h : Below w.heap.size w w') => el3 cl_Store_len (HR.out _ h) hxs0 rfl)
     have HRxs0 := Lib.hid (fun w' (h : Below w.heap.size w w') => rd_store (HX.out w' h) hxs0)
     have HFxs0 := Lib.hid (fit_store HFD.out.stores hxs0)
     have HCxs0 := Lib.hid (coS_at hxs0)
     clear hxs0
     have HEX := Lib.hid (exist_snoc_some HNK.out (by rw [← HTT.out]; exact HFO.out) HCxs0.out)
     have HCI := Lib.hid (fun w' (h : Below w.heap.size w w') => l6Copy_any xs0 HFxs0.out w' (HRxs0.out w' h))
     dsimp only [LS.v, LS.cells] at HCI
     obtain ⟨f0, f1, f2, f3⟩ := Bag.cs4 S40.out 0 rfl
     obtain ⟨f4, f5, f6⟩ := HKxs0.out _ S40.out.old
     have f7 : World.cell? _ (nad.add k) = some (.string t) := readsT_cell (Sv.own_at S40.out 9 rfl).reads k _ HTC.out
     go_upto_region 10 with fail
     clear f0 f1 f2 f3 f4 f5 f6 f7
     refine wp_region_held_drew (S := (fun w' => (w'.cell? ⟨w.heap.size, 0, none⟩ = some (.string name) ∧ w'.cell? ⟨w.heap.size, 1, none⟩ = some (.int .i64 ver) ∧ w'.cell? ⟨w.heap.size, 2, none⟩ = some (.slice (some sad) N sc) ∧ w'.cell? ⟨w.heap.size, 3, none⟩ = some (.slice ua M uc)) ∧ (w'.cell? (sad.add (j * 3)) = some (.string xs0.name) ∧ w'.cell? (⟨(sad.add (j * 3)).block, (sad.add (j * 3)).off + 1, none⟩) = some (.slice xs0.a xs0.xs.length xs0.c) ∧ w'.cell? (⟨(sad.add (j * 3)).block, (sad.add (j * 3)).off + 2, none⟩) = some (.int .i64 xs0.auto)) ∧ w'.cell? (nad.add k) = some (.string t))) (by kernel_rfl) ⟨Bag.cs4 (Bag.drew1 S40.out) 0 rfl, HKxs0.out _ (Bag.drew1 S40.out).old, readsT_cell (Sv.own_at (Bag.drew1 S40.out) 9 rfl).reads k _ HTC.out⟩ (fun hS => ?_)
     have S41 := Lib.hid (Bag.drew1 S40.out)
     clear S40
     generalize World.drew _ = w7 at hS S41 ⊢
     refine tk 0 rfl ?_
     try simp only [zp0, zp1, zp2, zp3, zp4]
     refine tk 1 rfl ?_
     try simp only [zp0, zp1, zp2, zp3, zp4]
     refine tk 2 rfl ?_
     try simp only [zp0, zp1, zp2, zp3, zp4]
     refine tk 3 rfl ?_
     try simp only [zp0, zp1, zp2, zp3, zp4]
     refine tk 4 rfl ?_
     try simp only [zp0, zp1, zp2, zp3, zp4]
     refine Reg.one_op (i := 5) rfl (by kernel_rfl) (fun K hK => ?_)
     go_simp
     go_at_call 31
     refine (HFI.out _ S41.out.old).mono ?_
     rintro e w8 ⟨rfl, hb⟩
     have S42 := Lib.hid (S41.out.keep hb)
     clear S41
     clear hb
     go_wp2_with fail
     refine hK.out _ _ ⟨Bag.cs4 S42.out 0 rfl, HKxs0.out _ S42.out.old, readsT_cell (Sv.own_at S42.out 9 rfl).reads k _ HTC.out⟩ (fun hS => ?_)
     clear hK K
     try simp only [zp0, zp1, zp2, zp3, zp4]
     refine tk 6 rfl ?_
     try simp only [zp0, zp1, zp2, zp3, zp4]
     refine wpAnyH_done (by kernel_rfl) ?_ _
     obtain ⟨f0, f1, f2, f3⟩ := Bag.cs4 S42.out 0 rfl
     have f4 := Bag.cs1 S42.out 1 rfl
     have f5 := Bag.cs1 S42.out 2 rfl
     have f6 := Bag.cs1 S42.out 4 rfl
     obtain ⟨f7, f8, f9⟩ := HKxs0.out _ S42.out.old
     have f10 : World.cell? _ (nad.add k) = some (.string t) := readsT_cell (Sv.own_at S42.out 9 rfl).reads k _ HTC.out
     clear f0 f1 f2 f3 f4 f5 f6 f7 f8 f9 f10
     obtain ⟨f0, f1, f2, f3⟩ := Bag.cs4 S42.out 0 rfl
     have f4 := Bag.cs1 S42.out 4 rfl
     obtain ⟨f5, f6, f7⟩ := HKxs0.out _ S42.out.old
     go_upto_region 12 with fail
     clear f0 f1 f2 f3 f4 f5 f6 f7
     refine Reg.wp_region_late (fun w' => (w'.cell? ⟨w.heap.size, 0, none⟩ = some (.string name) ∧ w'.cell? ⟨w.heap.size, 1, none⟩ = some (.int .i64 ver) ∧ w'.cell? ⟨w.heap.size, 2, none⟩ = some (.slice (some sad) N sc) ∧ w'.cell? ⟨w.heap.size, 3, none⟩ = some (.slice ua M uc)) ∧ (w'.cell? ⟨g1, 0, none⟩ = some (.slice (some ⟨gq, 0, none⟩) ys.length C1)) ∧ (w'.cell? (sad.add (j * 3)) = some (.string xs0.name) ∧ w'.cell? (⟨(sad.add (j * 3)).block, (sad.add (j * 3)).off + 1, none⟩) = some (.slice xs0.a xs0.xs.length xs0.c) ∧ w'.cell? (⟨(sad.add (j * 3)).block, (sad.add (j * 3)).off + 2, none⟩) = some (.int .i64 xs0.auto))) (fun w' => w'.cell? ⟨gq, k0 * 5 + 4, none⟩ = some (.slice BA m BC)) 19 (by kernel_rfl) ⟨Bag.cs4 (Bag.drew1 S42.out) 0 rfl, Bag.cs1 (Bag.drew1 S42.out) 4 rfl, HKxs0.out _ (Bag.drew1 S42.out).old⟩ (by rw [(Sv.own_at (Bag.drew1 S42.out) 3 rfl).cell (k0 * 5 + 4) (by rw [List.length_append, HDL.out]; simp <;> omega)]; simp [List.getElem_append, HDL.out]) (fun hS hL => ?_)
     have S43 := Lib.hid (Bag.drew1 S42.out)
     clear S42
     generalize World.drew _ = w9 at hS hL S43 ⊢
     refine Reg.early_op (i := 0) (v := ?_) rfl (by kernel_rfl) (by kernel_rfl) (by kernel_rfl) rfl (by kernel_rfl) (by kernel_rfl) (fun _ _ _ h => h) (by rfl) ?_ hS hL ?_
     rotate_left
     ·
      (intro w hSw hSv; (try dsimp only at hSw); (try dsimp only at hSv); go_simp; try with_reducible rfl)
     try simp only [zp0, zp1, zp2, zp3, zp4]
     refine Reg.early_op (i := 1) (v := ?_) rfl (by kernel_rfl) (by kernel_rfl) (by kernel_rfl) rfl (by kernel_rfl) (by kernel_rfl) (fun _ _ _ h => h) (by rfl) ?_ hS hL ?_
     rotate_left
     ·
      (intro w hSw hSv; (try dsimp only at hSw); (try dsimp only at hSv); go_simp; try with_reducible rfl)
     try simp only [zp0, zp1, zp2, zp3, zp4]
     refine Reg.early_op (i := 2) (v := ?_) rfl (by kernel_rfl) (by kernel_rfl) (by kernel_rfl) rfl (by kernel_rfl) (by kernel_rfl) (fun _ _ _ h => h) (by rfl) ?_ hS hL ?_
     rotate_left
     ·
      (intro w hSw hSv; (try dsimp only at hSw); (try dsimp only at hSv); go_simp; try with_reducible rfl)
     try simp only [zp0, zp1, zp2, zp3, zp4]
     refine Reg.early_op (i := 3) (v := ?_) rfl (by kernel_rfl) (by kernel_rfl) (by kernel_rfl) rfl (by kernel_rfl) (by kernel_rfl) (fun _ _ _ h => h) (by rfl) ?_ hS hL ?_
     rotate_left
     ·
      (intro w hSw hSv; (try dsimp only at hSw); (try dsimp only at hSv); go_simp; try with_reducible rfl)
     try simp only [zp0, zp1, zp2, zp3, zp4]
     refine Reg.early_op (i := 4) (v := ?_) rfl (by kernel_rfl) (by kernel_rfl) (by kernel_rfl) rfl (by kernel_rfl) (by kernel_rfl) (fun _ _ _ h => h) (by rfl) ?_ hS hL ?_
     rotate_left
     ·
      (intro w hSw hSv; (try dsimp only at hSw); (try dsimp only at hSv); go_simp; try with_reducible rfl)
     try simp only [zp0, zp1, zp2, zp3, zp4]
     refine Reg.early_op (i := 5) (v := ?_) rfl (by kernel_rfl) (by kernel_rfl) (by kernel_rfl) rfl (by kernel_rfl) (by kernel_rfl) (fun _ _ _ h => h) (by rfl) ?_ hS hL ?_
     rotate_left
     ·
      (intro w hSw hSv; (try dsimp only at hSw); (try dsimp only at hSv); go_simp; try with_reducible rfl)
     try simp only [zp0, zp1, zp2, zp3, zp4]
     refine Reg.early_op (i := 6) (v := ?_) rfl (by kernel_rfl) (by kernel_rfl) (by kernel_rfl) rfl (by kernel_rfl) (by kernel_rfl) (fun _ _ _ h => h) (by rfl) ?_ hS hL ?_
     rotate_left
     ·
      (intro w hSw hSv; (try dsimp only at hSw); (try dsimp only at hSv); go_simp; try with_reducible rfl)
     try simp only [zp0, zp1, zp2, zp3, zp4]
     refine Reg.early_op (i := 7) (v := ?_) rfl (by kernel_rfl) (by kernel_rfl) (by kernel_rfl) rfl (by kernel_rfl) (by kernel_rfl) (fun _ _ _ h => h) (by rfl) ?_ hS hL ?_
     rotate_left
     ·
      (intro w hSw hSv; (try dsimp only at hSw); (try dsimp only at hSv); go_simp; try with_reducible rfl)
     try simp only [zp0, zp1, zp2, zp3, zp4]
     refine Reg.early_op (i := 8) (v := ?_) rfl (by kernel_rfl) (by kernel_rfl) (by kernel_rfl) rfl (by kernel_rfl) (by kernel_rfl) (fun _ _ _ h => h) (by rfl) ?_ hS hL ?_
     rotate_left
     ·
      (intro w hSw hSv; (try dsimp only at hSw); (try dsimp only at hSv); go_simp; try with_reducible rfl)
     try simp only [zp0, zp1, zp2, zp3, zp4]
     refine Reg.early_op (i := 9) (v := ?_) rfl (by kernel_rfl) (by kernel_rfl) (by kernel_rfl) rfl (by kernel_rfl) (by kernel_rfl) (fun _ _ _ h => h) (by rfl) ?_ hS hL ?_
     rotate_left
     ·
      (intro w hSw hSv; (try dsimp only at hSw); (try dsimp only at hSv); go_simp; try with_reducible rfl)
     try simp only [zp0, zp1, zp2, zp3, zp4]
     refine Reg.early_op (i := 10) (v := ?_) rfl (by kernel_rfl) (by kernel_rfl) (by kernel_rfl) rfl (by kernel_rfl) (by kernel_rfl) (fun _ _ _ h => h) (by rfl) ?_ hS hL ?_
     rotate_left
     ·
      (intro w hSw hSv; (try dsimp only at hSw); (try dsimp only at hSv); go_simp; try with_reducible rfl)
     try simp only [zp0, zp1, zp2, zp3, zp4]
     refine Reg.early_op (i := 11) (v := ?_) rfl (by kernel_rfl) (by kernel_rfl) (by kernel_rfl) rfl (by kernel_rfl) (by kernel_rfl) (fun _ _ _ h => h) (by rfl) ?_ hS hL ?_
     rotate_left
     ·
      (intro w hSw hSv; (try dsimp only at hSw); (try dsimp only at hSv); go_simp; try with_reducible rfl)
     try simp only [zp0, zp1, zp2, zp3, zp4]
     refine Reg.early_op (i := 12) (v := ?_) rfl (by kernel_rfl) (by kernel_rfl) (by kernel_rfl) rfl (by kernel_rfl) (by kernel_rfl) (fun _ _ _ h => h) (by rfl) ?_ hS hL ?_
     rotate_left
     ·
      (intro w hSw hSv; (try dsimp only at hSw); (try dsimp only at hSv); go_simp; try with_reducible rfl)
     try simp only [zp0, zp1, zp2, zp3, zp4]
     refine Reg.early_op (i := 13) (v := ?_) rfl (by kernel_rfl) (by kernel_rfl) (by kernel_rfl) rfl (by kernel_rfl) (by kernel_rfl) (fun _ _ _ h => h) (by rfl) ?_ hS hL ?_
     rotate_left
     ·
      (intro w hSw hSv; (try dsimp only at hSw); (try dsimp only at hSv); go_simp; try with_reducible rfl)
     try simp only [zp0, zp1, zp2, zp3, zp4]
     refine Reg.only_op (i := 14) rfl (by kernel_rfl) (fun K hK => ?_)
     go_simp
     go_at_call 53
     refine (HCI.out _ S43.out.old).mono ?_
     rintro e w10 ⟨y, rfl, hcy, ho, hb⟩
     have S44 := Lib.hid (show Sl.Sep w _ [_, _, _, _, _, _, _, _, _, _, Bag.bag (LS.rows y)] from Bag.push_bag S43.out hb ho)
     clear S43
     clear hb ho
     have HCYS := Lib.hid hcy
     clear hcy
     dsimp only [LS.v, LS.cells]
     go_wp2_with fail
     clear hL
     refine hK.out _ _ ⟨Bag.cs4 S44.out 0 rfl, Bag.cs1 S44.out 4 rfl, HKxs0.out _ S44.out.old⟩ (by rw [(Sv.own_at S44.out 3 rfl).cell (k0 * 5 + 4) (by rw [List.length_append, HDL.out]; simp <;> omega)]; simp [List.getElem_append, HDL.out]) (fun hS hL => ?_)
     clear hK K
     try simp only [zp0, zp1, zp2, zp3, zp4]
     refine Reg.only_op (i := 15) rfl (by kernel_rfl) (fun K hK => ?_)
     go_simp
     have S45 := Lib.hid (show Sl.Sep w _ [_, _, _, _, _, _, _, _, _, _, _, Sv.ownV 70 3 (some ⟨w10.heap.size, 0, none⟩) 1 1 ([y].flatMap cl_Store)] from Sv.push_own S44.out ((Below.refl _ _).alloc (Nat.le_refl _) _) (OwnV.madeAt w10 70 3 1 w10.heap.size #[.string y.name, .slice y.a y.xs.length y.c, .int .i64 y.auto] rfl (Nat.le_refl _) rfl (by decide)))
     clear S44
     obtain ⟨g3, hg⟩ : ∃ g', g' = w10.heap.size := ⟨_, rfl⟩
     rw [← hg] at S45 ⊢
     clear hg
     generalize w10.alloc (.cells #[.string y.name, .slice y.a y.xs.length y.c, .int .i64 y.auto] 70) = w11 at S45 ⊢
     clear hL
     refine hK.out _ _ ⟨Bag.cs4 S45.out 0 rfl, Bag.cs1 S45.out 4 rfl, HKxs0.out _ S45.out.old⟩ (by rw [(Sv.own_at S45.out 3 rfl).cell (k0 * 5 + 4) (by rw [List.length_append, HDL.out]; simp <;> omega)]; simp [List.getElem_append, HDL.out]) (fun hS hL => ?_)
     clear hK K
     try simp only [zp0, zp1, zp2, zp3, zp4]
     refine Reg.only_op (i := 16) rfl (by kernel_rfl) (fun K hK => ?_)
     refine Sv.step_append_s S45.out 7 rfl rfl _ _ 30 (by rfl) iS (.agg #[.string ⟨#[]⟩, .slice none 0 0, .int .i64 0]) 48 Tryz.underlying30 HIS.out.1 HIS.out.2.1 HIS.out.2.2.1 HIS.out.2.2.2 rfl (by omega) _ (by rfl) rfl _ _ 1 _ _ ([y].flatMap cl_Store) (by rfl) rfl ((Sv.own_at S45.out 11 rfl).reads) rfl (V.one_flat cl_Store_one _) (by unfold maxLen; omega) (by omega) ?_
     intro a4' c4' w12 hA
     have S46 := Lib.hid (show Sl.Sep w _ [_, _, _, _, _, _, _, Sv.ownV 70 3 a4' c4' (m + 1) (zs.flatMap cl_Store ++ ([y].flatMap cl_Store)), _, _, _, Sv.ownV 70 3 (some ⟨g3, 0, none⟩) 1 1 ([y].flatMap cl_Store)] from hA)
     clear S45
     clear hA
     clear hL
     refine hK.out _ _ ⟨Bag.cs4 S46.out 0 rfl, Bag.cs1 S46.out 4 rfl, HKxs0.out _ S46.out.old⟩ (by rw [(Sv.own_at S46.out 3 rfl).cell (k0 * 5 + 4) (by rw [List.length_append, HDL.out]; simp <;> omega)]; simp [List.getElem_append, HDL.out]) (fun hS hL => ?_)
     clear hK K
     try simp only [zp0, zp1, zp2, zp3, zp4]
     refine Reg.plain_op (i := 17) (v := ?_) rfl (by kernel_rfl) (by kernel_rfl) (by kernel_rfl) rfl (fun _ _ _ h => h) (by rfl) ?_ hS (fun _ => hL) ?_
     rotate_left
     ·
      (intro w hSw; (try dsimp only at hSw); go_simp; try with_reducible rfl)
     try simp only [zp0, zp1, zp2, zp3, zp4]
     refine Reg.early_op (i := 18) (v := ?_) rfl (by kernel_rfl) (by kernel_rfl) (by kernel_rfl) rfl (by kernel_rfl) (by kernel_rfl) (fun _ _ _ h => h) (by rfl) ?_ hS hL ?_
     rotate_left
     ·
      (intro w hSw hSv; (try dsimp only at hSw); (try dsimp only at hSv); go_simp; try with_reducible rfl)
     try simp only [zp0, zp1, zp2, zp3, zp4]
     refine Reg.late_op (i := 19) rfl (by kernel_rfl) rfl (fun K hK => ?_)
     have q4 : World.cell? w12 ⟨gq, k0 * 5 + 4, none⟩ = some (.slice BA m BC) := (by rw [(Sv.own_at S46.out 3 rfl).cell (k0 * 5 + 4) (by rw [List.length_append, HDL.out]; simp <;> omega)]; simp [List.getElem_append, HDL.out])
     have y4 := (Sv.own_at S46.out 3 rfl).free (k0 * 5 + 4)
     go_simp
     clear q4 y4
     have HOV := Lib.hid (show Run.over (D0 ++ (.int .i64 x.f_Id :: .slice x.f_Ops_a x.f_Ops.length x.f_Ops_c :: .int .i64 x.f_At :: .int .i64 1 :: .slice BA m BC :: R0)) (k0 * 5 + 4) [.slice a4' (m + 1) c4'] = D0 ++ (.int .i64 x.f_Id :: .slice x.f_Ops_a x.f_Ops.length x.f_Ops_c :: .int .i64 x.f_At :: .int .i64 1 :: .slice a4' (m + 1) c4' :: R0) from by rw [show D0 ++ (.int .i64 x.f_Id :: .slice x.f_Ops_a x.f_Ops.length x.f_Ops_c :: .int .i64 x.f_At :: .int .i64 1 :: .slice BA m BC :: R0) = (D0 ++ ([.int .i64 x.f_Id, .slice x.f_Ops_a x.f_Ops.length x.f_Ops_c, .int .i64 x.f_At, .int .i64 1] : List Value)) ++ ([.slice BA m BC] ++ (R0)) from by simp, Run.over_mid (D0 ++ ([.int .i64 x.f_Id, .slice x.f_Ops_a x.f_Ops.length x.f_Ops_c, .int .i64 x.f_At, .int .i64 1] : List Value)) (R0) [.slice a4' (m + 1) c4'] [.slice BA m BC] (k0 * 5 + 4) (by simp [HDL.out]) rfl]; simp)
     have S47 := Lib.hid (show Sl.Sep w (w12.setCell ⟨gq, k0 * 5 + 4, none⟩ (.slice a4' (m + 1) c4')) [_, _, _, Sv.ownV 89 5 (some ⟨gq, 0, none⟩) C1 ys.length (D0 ++ (.int .i64 x.f_Id :: .slice x.f_Ops_a x.f_Ops.length x.f_Ops_c :: .int .i64 x.f_At :: .int .i64 1 :: .slice a4' (m + 1) c4' :: R0)), _, _, _, _, _, _, _, _] from (by have h := Run.put_run S46.out 3 rfl (k0 * 5 + 4) [.slice a4' (m + 1) c4'] (by rw [List.length_append, HDL.out]; simp <;> omega); rw [HOV.out] at h; exact h))
     clear S46
     clear HOV
     refine hK.out _ _ ⟨Bag.cs4 S47.out 0 rfl, Bag.cs1 S47.out 4 rfl, HKxs0.out _ S47.out.old⟩ (fun hS => ?_)
     clear hL
     clear hK K
     try simp only [zp0, zp1, zp2, zp3, zp4]
     refine Reg.anyL_done (by kernel_rfl) ?_ _
     obtain ⟨f0, f1, f2, f3⟩ := Bag.cs4 S47.out 0 rfl
     have f4 := Bag.cs1 S47.out 1 rfl
     have f5 := Bag.cs1 S47.out 2 rfl
     have f6 := Bag.cs1 S47.out 4 rfl
     obtain ⟨f7, f8, f9⟩ := HKxs0.out _ S47.out.old
     clear f0 f1 f2 f3 f4 f5 f6 f7 f8 f9
     have S48 := Lib.hid (show Sl.Sep w _ [_, _, _, _, _, _, _, _, Bag.bag (rws_Store zs ++ (LS.rows y)), _, Bag.bag ([]), _] from Bag.bag_join S47.out 8 10 (by decide) rfl rfl)
     clear S47
     have S49 := Lib.hid (show Sl.Sep w _ [_, _, _, _, _, _, _, _, _, _] from Bag.take S48.out [0, 1, 2, 3, 4, 5, 6, 7, 8, 9] (by rfl) (by decide))
     clear S48
     go_wp2_with fail
     go_roundw
     case rel =>
      refine ⟨k + 1, m + 1, a4', c4', zs ++ [y], by omega, by omega, by go_num, And.intro ⟨?_, ?_⟩ ?_⟩
      ·
       rw [HEX.out, ← HCC.out.1, coS_Store_eq, coS_Store_eq, List.map_append]; exact congrArg (fun u => _ ++ [u]) HCYS.out
      ·
       rw [List.length_append, HCC.out.2]; rfl
      ·
       rw [List.flatMap_append, rws_Store_app, show rws_Store [y] = LS.rows y from by rw [rws_Store_eq]; simp; rfl]; exact S49.out
     case measure => simp [intOf]; omega
   ·
    skip
    obtain rfl : k = L := by omega
    have f0 := Bag.cs1 S40.out 2 rfl
    have f1 := Bag.cs1 S40.out 4 rfl
    have z0 := Bag.free_at S40.out 2 rfl 0
    go_wp2_with fail
    clear f0 f1 z0
    have S41 := Lib.hid (show Sl.Sep w _ [L4.boxR w.heap.size 33 #[.string name, .int .i64 ver, .slice sa N sc, .slice ua M uc], L4.boxR (w.heap.size + 1) 56 #[.slice (some tad) NT c], L4.boxR (w.heap.size + 1 + 1) 56 #[.slice (some ⟨gq, 0, none⟩) ys.length C1], Sv.ownV 89 5 (some ⟨gq, 0, none⟩) C1 ys.length (D0 ++ (.int .i64 x.f_Id :: .slice x.f_Ops_a x.f_Ops.length x.f_Ops_c :: .int .i64 x.f_At :: .int .i64 1 :: .slice BA m BC :: R0)), L4.boxR g1 56 #[.slice (some ⟨gq, 0, none⟩) ys.length C1], Bag.bag (rws_Tx (ys.take k0) ++ rws_Tx (ys.drop (k0 + 1))), Bag.bag (rs_Op x.f_Ops_a x.f_Ops_c x.f_Ops), Sv.ownV 70 3 BA BC m (zs.flatMap cl_Store), Bag.bag (rws_Store zs), Sv.ownV 9 1 na nc k (cT ns)] from L5.put_box5 (S40.out) 2 rfl 0 (.slice (some ⟨gq, 0, none⟩) ys.length C1))
    clear S40
    have f0 := Bag.cs1 S41.out 2 rfl
    refine bodyPost_ret (v := .tuple #[.agg #[.slice (some ⟨gq, 0, none⟩) ys.length C1], .bool true]) (by simp [results, Tryz.results22, go_sem, *]) rfl ?_
    clear f0
    have hc1 := HCC.out.1
    rw [List.take_of_length_le (show ns.length ≤ k by have := HL.out; omega)] at hc1
    have HC1 := Lib.hid hc1
    clear hc1
    have hm9 : zs.length = m := HCC.out.2
    subst hm9
    have S42 := Lib.hid (show Sl.Sep w _ [_, _, _, Sv.ownV 89 5 (some ⟨gq, 0, none⟩) C1 ys.length (D0 ++ (.int .i64 x.f_Id :: .slice x.f_Ops_a x.f_Ops.length x.f_Ops_c :: .int .i64 x.f_At :: .int .i64 1 :: .slice BA zs.length BC :: R0)), _, _, _, Bag.bag ([row_Store BA BC zs]), _, _] from Bag.bag_of_one S41.out 7 (r := row_Store BA BC zs) rfl)
    clear S41
    have S43 := Lib.hid (show Sl.Sep w _ [_, _, _, _, _, _, _, Bag.bag ([row_Store BA BC zs] ++ (rws_Store zs)), Bag.bag ([]), _] from Bag.bag_join S42.out 7 8 (by decide) rfl rfl)
    clear S42
    have S44 := Lib.hid (show Sl.Sep w _ [_, _, _, _, _, _, Bag.bag ((rs_Op x.f_Ops_a x.f_Ops_c x.f_Ops) ++ ([row_Store BA BC zs] ++ (rws_Store zs))), Bag.bag ([]), Bag.bag ([]), _] from Bag.bag_join S43.out 6 7 (by decide) rfl rfl)
    clear S43
    have S45 := Lib.hid (show Sl.Sep w _ [_, _, _, _, _, Bag.bag ((rws_Tx (ys.take k0) ++ rws_Tx (ys.drop (k0 + 1))) ++ ((rs_Op x.f_Ops_a x.f_Ops_c x.f_Ops) ++ ([row_Store BA BC zs] ++ (rws_Store zs)))), Bag.bag ([]), Bag.bag ([]), Bag.bag ([]), _] from Bag.bag_join S44.out 5 6 (by decide) rfl rfl)
    clear S44
    have S46 := Lib.hid (show Sl.Sep w _ [_, _] from Bag.take S45.out [3, 5] (by rfl) (by decide))
    clear S45
    have HSET := Lib.hid (show ys.set k0 (⟨x.f_Id, x.f_Ops_a, x.f_Ops_c, x.f_Ops, x.f_At, 1, BA, BC, zs⟩ : Y_Tx) = ys.take k0 ++ (⟨x.f_Id, x.f_Ops_a, x.f_Ops_c, x.f_Ops, x.f_At, 1, BA, BC, zs⟩ : Y_Tx) :: ys.drop (k0 + 1) from by rw [List.set_eq_take_append_cons_drop, if_pos hkly])
    have S47 := Lib.hid (show Sl.Sep w _ [Sv.ownV 89 5 (some ⟨gq, 0, none⟩) C1 ys.length (D0 ++ (.int .i64 x.f_Id :: .slice x.f_Ops_a x.f_Ops.length x.f_Ops_c :: .int .i64 x.f_At :: .int .i64 1 :: .slice BA zs.length BC :: R0)), Bag.bag (rws_Tx (ys.set k0 (⟨x.f_Id, x.f_Ops_a, x.f_Ops_c, x.f_Ops, x.f_At, 1, BA, BC, zs⟩ : Y_Tx)))] from Bag.bag_perm S46.out 1 rfl (by rw [show rws_Tx (ys.set k0 (⟨x.f_Id, x.f_Ops_a, x.f_Ops_c, x.f_Ops, x.f_At, 1, BA, BC, zs⟩ : Y_Tx)) = ((ys.take k0) ++ [(⟨x.f_Id, x.f_Ops_a, x.f_Ops_c, x.f_Ops, x.f_At, 1, BA, BC, zs⟩ : Y_Tx)]).flatMap rw_Tx ++ (ys.drop (k0 + 1)).flatMap rw_Tx from by rw [rws_Tx_eq, HSET.out, List.flatMap_append, List.flatMap_append, List.flatMap_cons, List.append_assoc]; simp]; exact V.flat_back (rw_ := rw_Tx) (ys.take k0) (ys.drop (k0 + 1)) (⟨x.f_Id, x.f_Ops_a, x.f_Ops_c, x.f_Ops, x.f_At, 1, BA, BC, zs⟩ : Y_Tx)))
    clear S46
    have S48 := Lib.hid (show Sl.Sep w _ [Bag.bag ([row_Tx (some ⟨gq, 0, none⟩) C1 (ys.set k0 (⟨x.f_Id, x.f_Ops_a, x.f_Ops_c, x.f_Ops, x.f_At, 1, BA, BC, zs⟩ : Y_Tx))]), _] from Bag.bag_of_one S47.out 0 (r := row_Tx (some ⟨gq, 0, none⟩) C1 (ys.set k0 (⟨x.f_Id, x.f_Ops_a, x.f_Ops_c, x.f_Ops, x.f_At, 1, BA, BC, zs⟩ : Y_Tx))) (by unfold RowS.res row_Tx; dsimp only; rw [List.length_set, HSET.out, List.flatMap_append, List.flatMap_cons, ← HD0.out, ← HR0.out]; rfl))
    clear S47
    have S49 := Lib.hid (show Sl.Sep w _ [Bag.bag ([row_Tx (some ⟨gq, 0, none⟩) C1 (ys.set k0 (⟨x.f_Id, x.f_Ops_a, x.f_Ops_c, x.f_Ops, x.f_At, 1, BA, BC, zs⟩ : Y_Tx))] ++ (rws_Tx (ys.set k0 (⟨x.f_Id, x.f_Ops_a, x.f_Ops_c, x.f_Ops, x.f_At, 1, BA, BC, zs⟩ : Y_Tx)))), Bag.bag ([])] from Bag.bag_join S48.out 0 1 (by decide) rfl rfl)
    clear S48
    refine ⟨some ⟨gq, 0, none⟩, C1, ys.set k0 (⟨x.f_Id, x.f_Ops_a, x.f_Ops_c, x.f_Ops, x.f_At, 1, BA, BC, zs⟩ : Y_Tx), by rw [List.length_set], ?_, Bag.bag_from S49.out 0 rfl, S49.out.old⟩
    rw [← HRX.out, HSX.out, ← HCY.out, coS_Tx_eq, coS_Tx_eq, List.map_set]
    exact congrArg (fun u => List.set _ k0 u) (by unfold stT; rw [HNS.out, ← HDZ.out]; exact congrArg (X_Tx.mk _ _ _ _) HC1.out)
end Go.Proofs.YthljdhfgphebnaaGreat.L10

namespace Go.Proofs.YthljdhfgphebnaaGreat.L9
open V L6
open L4 (K isK cmpK)
open L5 (F isR isN string_geq)
open Go.Op (bytesLess)
open Go.ChangeShapes Go.WideShapes Go.ChangeAt Go.RowKit Mem Sl Ex L2 Sv Bag

def ifO (kd : Int) (v : Value) : Value := if kd = 1 then .iface 240 v else if kd = 2 then .iface 241 v else if kd = 3 then .iface 242 v else if kd = 4 then .iface 219 v else if kd = 5 then .iface 243 v else if kd = 6 then .iface 244 v else .nilIface
theorem ifO1 (v : Value) : ifO 1 v = .iface 240 v := rfl
theorem ifO2 (v : Value) : ifO 2 v = .iface 241 v := rfl
theorem ifO3 (v : Value) : ifO 3 v = .iface 242 v := rfl
theorem ifO4 (v : Value) : ifO 4 v = .iface 219 v := rfl
theorem ifO5 (v : Value) : ifO 5 v = .iface 243 v := rfl
theorem ifO6 (v : Value) : ifO 6 v = .iface 244 v := rfl
theorem ifO_no {kd : Int} (v : Value) (h : ¬ (kd = 1 ∨ kd = 2 ∨ kd = 3 ∨ kd = 4 ∨ kd = 5 ∨ kd = 6)) : ifO kd v = .nilIface := by
 unfold ifO
 rw [if_neg (by omega), if_neg (by omega), if_neg (by omega), if_neg (by omega), if_neg (by omega), if_neg (by omega)]
theorem nil_no (t : TypeId) (v : Value) (w : World) : (binOp .eql 217 (.iface t v) .nilIface).run Tryz.prog w = .ok (.bool false) w := by rfl
theorem nil_yes (w : World) : (binOp .eql 217 .nilIface .nilIface).run Tryz.prog w = .ok (.bool true) w := by rfl
theorem as_getOp (v : Value) (w : World) : (Instr.typeAssert (.iface 219 v) 217 219 true).run Tryz.prog w = .ok (.tuple #[v, .bool true]) w := by rfl
theorem not_getOp_nil (w : World) : (Instr.typeAssert .nilIface 217 219 true).run Tryz.prog w = .ok (.tuple #[.agg #[.int .i64 0, .string ⟨#[]⟩, .int .i64 0, .int .i64 0, .string ⟨#[]⟩, .slice none 0 0, .string ⟨#[]⟩], .bool false]) w := by kernel_rfl
theorem not_getOp_putOp (v : Value) (w : World) : (Instr.typeAssert (.iface 240 v) 217 219 true).run Tryz.prog w = .ok (.tuple #[.agg #[.int .i64 0, .string ⟨#[]⟩, .int .i64 0, .int .i64 0, .string ⟨#[]⟩, .slice none 0 0, .string ⟨#[]⟩], .bool false]) w := by kernel_rfl
theorem not_getOp_addOp (v : Value) (w : World) : (Instr.typeAssert (.iface 241 v) 217 219 true).run Tryz.prog w = .ok (.tuple #[.agg #[.int .i64 0, .string ⟨#[]⟩, .int .i64 0, .int .i64 0, .string ⟨#[]⟩, .slice none 0 0, .string ⟨#[]⟩], .bool false]) w := by kernel_rfl
theorem not_getOp_deleteOp (v : Value) (w : World) : (Instr.typeAssert (.iface 242 v) 217 219 true).run Tryz.prog w = .ok (.tuple #[.agg #[.int .i64 0, .string ⟨#[]⟩, .int .i64 0, .int .i64 0, .string ⟨#[]⟩, .slice none 0 0, .string ⟨#[]⟩], .bool false]) w := by kernel_rfl
theorem not_getOp_clearOp (v : Value) (w : World) : (Instr.typeAssert (.iface 243 v) 217 219 true).run Tryz.prog w = .ok (.tuple #[.agg #[.int .i64 0, .string ⟨#[]⟩, .int .i64 0, .int .i64 0, .string ⟨#[]⟩, .slice none 0 0, .string ⟨#[]⟩], .bool false]) w := by kernel_rfl
theorem not_getOp_incOp (v : Value) (w : World) : (Instr.typeAssert (.iface 244 v) 217 219 true).run Tryz.prog w = .ok (.tuple #[.agg #[.int .i64 0, .string ⟨#[]⟩, .int .i64 0, .int .i64 0, .string ⟨#[]⟩, .slice none 0 0, .string ⟨#[]⟩], .bool false]) w := by kernel_rfl
set_option maxHeartbeats 4000000 in
theorem operationOf_any (o : Y_Op) (w : World) :
  Calls Tryz.prog 177 #[vv_Op o] w fun e w' => e = .returned (ifO o.f_Kind (vv_Op o)) ∧ Below w.heap.size w w' := by
 obtain ⟨kd, st, ⟨kk, kn, kt⟩, ⟨ra, rc, rl⟩, fd⟩ := o
 unfold vv_Op
 dsimp only
 rcases (show kd = 1 ∨ kd = 2 ∨ kd = 3 ∨ kd = 4 ∨ kd = 5 ∨ kd = 6 ∨ ¬ (kd = 1 ∨ kd = 2 ∨ kd = 3 ∨ kd = 4 ∨ kd = 5 ∨ kd = 6) by omega) with rfl | rfl | rfl | rfl | rfl | rfl | hno
 ·
  skip
  rw [ifO1]
  have S1 := Lib.hid (show Sl.Sep w _ [_] from L4.push_box (Sl.Sep.start w) 133 #[.int .i64 1, .string st, .int .i64 kk, .int .i64 kn, .string kt, .slice ra rl.length rc, .string fd] (w.heap.size) (by simp))
  obtain ⟨wa, hwa⟩ : ∃ w_, w_ = (w.alloc (.cells #[.int .i64 1, .string st, .int .i64 kk, .int .i64 kn, .string kt, .slice ra rl.length rc, .string fd] 133)) := ⟨_, rfl⟩
  rw [← hwa] at S1
  go_enter Tryz.func177, Tryz.ntmps177
  go_upto_region 1 with fail
  rw [← hwa]
  clear hwa
  obtain ⟨f0, f1, f2, f3, f4, f5, f6⟩ := Bag.cs7 S1.out 0 rfl
  go_wp2_with fail
  go_ret
  exact ⟨rfl, S1.out.old⟩
 ·
  skip
  rw [ifO2]
  have S1 := Lib.hid (show Sl.Sep w _ [_] from L4.push_box (Sl.Sep.start w) 133 #[.int .i64 2, .string st, .int .i64 kk, .int .i64 kn, .string kt, .slice ra rl.length rc, .string fd] (w.heap.size) (by simp))
  obtain ⟨wa, hwa⟩ : ∃ w_, w_ = (w.alloc (.cells #[.int .i64 2, .string st, .int .i64 kk, .int .i64 kn, .string kt, .slice ra rl.length rc, .string fd] 133)) := ⟨_, rfl⟩
  rw [← hwa] at S1
  go_enter Tryz.func177, Tryz.ntmps177
  go_upto_region 1 with fail
  rw [← hwa]
  clear hwa
  obtain ⟨f0, f1, f2, f3, f4, f5, f6⟩ := Bag.cs7 S1.out 0 rfl
  go_wp2_with fail
  go_ret
  exact ⟨rfl, S1.out.old⟩
 ·
  skip
  rw [ifO3]
  have S1 := Lib.hid (show Sl.Sep w _ [_] from L4.push_box (Sl.Sep.start w) 133 #[.int .i64 3, .string st, .int .i64 kk, .int .i64 kn, .string kt, .slice ra rl.length rc, .string fd] (w.heap.size) (by simp))
  obtain ⟨wa, hwa⟩ : ∃ w_, w_ = (w.alloc (.cells #[.int .i64 3, .string st, .int .i64 kk, .int .i64 kn, .string kt, .slice ra rl.length rc, .string fd] 133)) := ⟨_, rfl⟩
  rw [← hwa] at S1
  go_enter Tryz.func177, Tryz.ntmps177
  go_upto_region 1 with fail
  rw [← hwa]
  clear hwa
  obtain ⟨f0, f1, f2, f3, f4, f5, f6⟩ := Bag.cs7 S1.out 0 rfl
  go_wp2_with fail
  go_ret
  exact ⟨rfl, S1.out.old⟩
 ·
  skip
  rw [ifO4]
  have S1 := Lib.hid (show Sl.Sep w _ [_] from L4.push_box (Sl.Sep.start w) 133 #[.int .i64 4, .string st, .int .i64 kk, .int .i64 kn, .string kt, .slice ra rl.length rc, .string fd] (w.heap.size) (by simp))
  obtain ⟨wa, hwa⟩ : ∃ w_, w_ = (w.alloc (.cells #[.int .i64 4, .string st, .int .i64 kk, .int .i64 kn, .string kt, .slice ra rl.length rc, .string fd] 133)) := ⟨_, rfl⟩
  rw [← hwa] at S1
  go_enter Tryz.func177, Tryz.ntmps177
  go_upto_region 1 with fail
  rw [← hwa]
  clear hwa
  obtain ⟨f0, f1, f2, f3, f4, f5, f6⟩ := Bag.cs7 S1.out 0 rfl
  go_wp2_with fail
  go_ret
  exact ⟨rfl, S1.out.old⟩
 ·
  skip
  rw [ifO5]
  have S1 := Lib.hid (show Sl.Sep w _ [_] from L4.push_box (Sl.Sep.start w) 133 #[.int .i64 5, .string st, .int .i64 kk, .int .i64 kn, .string kt, .slice ra rl.length rc, .string fd] (w.heap.size) (by simp))
  obtain ⟨wa, hwa⟩ : ∃ w_, w_ = (w.alloc (.cells #[.int .i64 5, .string st, .int .i64 kk, .int .i64 kn, .string kt, .slice ra rl.length rc, .string fd] 133)) := ⟨_, rfl⟩
  rw [← hwa] at S1
  go_enter Tryz.func177, Tryz.ntmps177
  go_upto_region 1 with fail
  rw [← hwa]
  clear hwa
  obtain ⟨f0, f1, f2, f3, f4, f5, f6⟩ := Bag.cs7 S1.out 0 rfl
  go_wp2_with fail
  go_ret
  exact ⟨rfl, S1.out.old⟩
 ·
  skip
  rw [ifO6]
  have S1 := Lib.hid (show Sl.Sep w _ [_] from L4.push_box (Sl.Sep.start w) 133 #[.int .i64 6, .string st, .int .i64 kk, .int .i64 kn, .string kt, .slice ra rl.length rc, .string fd] (w.heap.size) (by simp))
  obtain ⟨wa, hwa⟩ : ∃ w_, w_ = (w.alloc (.cells #[.int .i64 6, .string st, .int .i64 kk, .int .i64 kn, .string kt, .slice ra rl.length rc, .string fd] 133)) := ⟨_, rfl⟩
  rw [← hwa] at S1
  go_enter Tryz.func177, Tryz.ntmps177
  go_upto_region 1 with fail
  rw [← hwa]
  clear hwa
  obtain ⟨f0, f1, f2, f3, f4, f5, f6⟩ := Bag.cs7 S1.out 0 rfl
  go_wp2_with fail
  go_ret
  exact ⟨rfl, S1.out.old⟩
 ·
  skip
  rw [ifO_no _ hno]
  have n1 : ¬ kd = 1 := by omega
  have n2 : ¬ kd = 2 := by omega
  have n3 : ¬ kd = 3 := by omega
  have n4 : ¬ kd = 4 := by omega
  have n5 : ¬ kd = 5 := by omega
  have n6 : ¬ kd = 6 := by omega
  clear hno
  have S1 := Lib.hid (show Sl.Sep w _ [_] from L4.push_box (Sl.Sep.start w) 133 #[.int .i64 kd, .string st, .int .i64 kk, .int .i64 kn, .string kt, .slice ra rl.length rc, .string fd] (w.heap.size) (by simp))
  obtain ⟨wa, hwa⟩ : ∃ w_, w_ = (w.alloc (.cells #[.int .i64 kd, .string st, .int .i64 kk, .int .i64 kn, .string kt, .slice ra rl.length rc, .string fd] 133)) := ⟨_, rfl⟩
  rw [← hwa] at S1
  go_enter Tryz.func177, Tryz.ntmps177
  go_upto_region 1 with fail
  rw [← hwa]
  clear hwa
  obtain ⟨f0, f1, f2, f3, f4, f5, f6⟩ := Bag.cs7 S1.out 0 rfl
  go_wp2_with fail
  go_ret
  exact ⟨rfl, S1.out.old⟩
set_option maxHeartbeats 4000000 in
theorem isWrite_any (o : Y_Op) (w : World) :
  Calls Tryz.prog 157 #[vv_Op o] w fun e w' => e = .returned (.bool (isW (co_Op o).f_Kind)) ∧ Below w.heap.size w w' := by
 obtain ⟨kd, st, ⟨kk, kn, kt⟩, ⟨ra, rc, rl⟩, fd⟩ := o
 unfold vv_Op
 dsimp only [co_Op]
 rcases (show kd = 1 ∨ kd = 2 ∨ kd = 3 ∨ kd = 4 ∨ kd = 5 ∨ kd = 6 ∨ ¬ (kd = 1 ∨ kd = 2 ∨ kd = 3 ∨ kd = 4 ∨ kd = 5 ∨ kd = 6) by omega) with rfl | rfl | rfl | rfl | rfl | rfl | hno
 ·
  skip
  have HOF := fun w => operationOf_any ⟨1, st, ⟨kk, kn, kt⟩, ⟨ra, rc, rl⟩, fd⟩ w
  unfold vv_Op at HOF
  dsimp only at HOF
  rw [ifO1] at HOF
  replace HOF := Lib.hid HOF
  have hnil := fun v w => nil_no 240 v w
  have asgetOp := not_getOp_putOp
  have HW : isW 1 = true := by decide
  rw [HW]
  clear HW
  have S1 := Lib.hid (show Sl.Sep w _ [_] from L4.push_box (Sl.Sep.start w) 133 #[.int .i64 1, .string st, .int .i64 kk, .int .i64 kn, .string kt, .slice ra rl.length rc, .string fd] (w.heap.size) (by simp))
  obtain ⟨wa, hwa⟩ : ∃ w_, w_ = (w.alloc (.cells #[.int .i64 1, .string st, .int .i64 kk, .int .i64 kn, .string kt, .slice ra rl.length rc, .string fd] 133)) := ⟨_, rfl⟩
  rw [← hwa] at S1
  go_enter Tryz.func157, Tryz.ntmps157
  go_upto_region 1 with fail
  rw [← hwa]
  clear hwa
  obtain ⟨f0, f1, f2, f3, f4, f5, f6⟩ := Bag.cs7 S1.out 0 rfl
  go_wp2_with fail
  go_at_call 177
  refine (HOF.out _).mono ?_
  rintro e w1 ⟨rfl, hb⟩
  clear f0 f1 f2 f3 f4 f5 f6
  have S2 := Lib.hid (S1.out.keep hb)
  clear S1
  clear hb
  obtain ⟨f0, f1, f2, f3, f4, f5, f6⟩ := Bag.cs7 S2.out 0 rfl
  go_wp2_with fail
  go_ret
  exact ⟨by rfl, S2.out.old⟩
 ·
  skip
  have HOF := fun w => operationOf_any ⟨2, st, ⟨kk, kn, kt⟩, ⟨ra, rc, rl⟩, fd⟩ w
  unfold vv_Op at HOF
  dsimp only at HOF
  rw [ifO2] at HOF
  replace HOF := Lib.hid HOF
  have hnil := fun v w => nil_no 241 v w
  have asgetOp := not_getOp_addOp
  have HW : isW 2 = true := by decide
  rw [HW]
  clear HW
  have S1 := Lib.hid (show Sl.Sep w _ [_] from L4.push_box (Sl.Sep.start w) 133 #[.int .i64 2, .string st, .int .i64 kk, .int .i64 kn, .string kt, .slice ra rl.length rc, .string fd] (w.heap.size) (by simp))
  obtain ⟨wa, hwa⟩ : ∃ w_, w_ = (w.alloc (.cells #[.int .i64 2, .string st, .int .i64 kk, .int .i64 kn, .string kt, .slice ra rl.length rc, .string fd] 133)) := ⟨_, rfl⟩
  rw [← hwa] at S1
  go_enter Tryz.func157, Tryz.ntmps157
  go_upto_region 1 with fail
  rw [← hwa]
  clear hwa
  obtain ⟨f0, f1, f2, f3, f4, f5, f6⟩ := Bag.cs7 S1.out 0 rfl
  go_wp2_with fail
  go_at_call 177
  refine (HOF.out _).mono ?_
  rintro e w1 ⟨rfl, hb⟩
  clear f0 f1 f2 f3 f4 f5 f6
  have S2 := Lib.hid (S1.out.keep hb)
  clear S1
  clear hb
  obtain ⟨f0, f1, f2, f3, f4, f5, f6⟩ := Bag.cs7 S2.out 0 rfl
  go_wp2_with fail
  go_ret
  exact ⟨by rfl, S2.out.old⟩
 ·
  skip
  have HOF := fun w => operationOf_any ⟨3, st, ⟨kk, kn, kt⟩, ⟨ra, rc, rl⟩, fd⟩ w
  unfold vv_Op at HOF
  dsimp only at HOF
  rw [ifO3] at HOF
  replace HOF := Lib.hid HOF
  have hnil := fun v w => nil_no 242 v w
  have asgetOp := not_getOp_deleteOp
  have HW : isW 3 = true := by decide
  rw [HW]
  clear HW
  have S1 := Lib.hid (show Sl.Sep w _ [_] from L4.push_box (Sl.Sep.start w) 133 #[.int .i64 3, .string st, .int .i64 kk, .int .i64 kn, .string kt, .slice ra rl.length rc, .string fd] (w.heap.size) (by simp))
  obtain ⟨wa, hwa⟩ : ∃ w_, w_ = (w.alloc (.cells #[.int .i64 3, .string st, .int .i64 kk, .int .i64 kn, .string kt, .slice ra rl.length rc, .string fd] 133)) := ⟨_, rfl⟩
  rw [← hwa] at S1
  go_enter Tryz.func157, Tryz.ntmps157
  go_upto_region 1 with fail
  rw [← hwa]
  clear hwa
  obtain ⟨f0, f1, f2, f3, f4, f5, f6⟩ := Bag.cs7 S1.out 0 rfl
  go_wp2_with fail
  go_at_call 177
  refine (HOF.out _).mono ?_
  rintro e w1 ⟨rfl, hb⟩
  clear f0 f1 f2 f3 f4 f5 f6
  have S2 := Lib.hid (S1.out.keep hb)
  clear S1
  clear hb
  obtain ⟨f0, f1, f2, f3, f4, f5, f6⟩ := Bag.cs7 S2.out 0 rfl
  go_wp2_with fail
  go_ret
  exact ⟨by rfl, S2.out.old⟩
 ·
  skip
  have HOF := fun w => operationOf_any ⟨4, st, ⟨kk, kn, kt⟩, ⟨ra, rc, rl⟩, fd⟩ w
  unfold vv_Op at HOF
  dsimp only at HOF
  rw [ifO4] at HOF
  replace HOF := Lib.hid HOF
  have hnil := fun v w => nil_no 219 v w
  have asgetOp := as_getOp
  have HW : isW 4 = false := by decide
  rw [HW]
  clear HW
  have S1 := Lib.hid (show Sl.Sep w _ [_] from L4.push_box (Sl.Sep.start w) 133 #[.int .i64 4, .string st, .int .i64 kk, .int .i64 kn, .string kt, .slice ra rl.length rc, .string fd] (w.heap.size) (by simp))
  obtain ⟨wa, hwa⟩ : ∃ w_, w_ = (w.alloc (.cells #[.int .i64 4, .string st, .int .i64 kk, .int .i64 kn, .string kt, .slice ra rl.length rc, .string fd] 133)) := ⟨_, rfl⟩
  rw [← hwa] at S1
  go_enter Tryz.func157, Tryz.ntmps157
  go_upto_region 1 with fail
  rw [← hwa]
  clear hwa
  obtain ⟨f0, f1, f2, f3, f4, f5, f6⟩ := Bag.cs7 S1.out 0 rfl
  go_wp2_with fail
  go_at_call 177
  refine (HOF.out _).mono ?_
  rintro e w1 ⟨rfl, hb⟩
  clear f0 f1 f2 f3 f4 f5 f6
  have S2 := Lib.hid (S1.out.keep hb)
  clear S1
  clear hb
  obtain ⟨f0, f1, f2, f3, f4, f5, f6⟩ := Bag.cs7 S2.out 0 rfl
  go_wp2_with fail
  go_ret
  exact ⟨by rfl, S2.out.old⟩
 ·
  skip
  have HOF := fun w => operationOf_any ⟨5, st, ⟨kk, kn, kt⟩, ⟨ra, rc, rl⟩, fd⟩ w
  unfold vv_Op at HOF
  dsimp only at HOF
  rw [ifO5] at HOF
  replace HOF := Lib.hid HOF
  have hnil := fun v w => nil_no 243 v w
  have asgetOp := not_getOp_clearOp
  have HW : isW 5 = true := by decide
  rw [HW]
  clear HW
  have S1 := Lib.hid (show Sl.Sep w _ [_] from L4.push_box (Sl.Sep.start w) 133 #[.int .i64 5, .string st, .int .i64 kk, .int .i64 kn, .string kt, .slice ra rl.length rc, .string fd] (w.heap.size) (by simp))
  obtain ⟨wa, hwa⟩ : ∃ w_, w_ = (w.alloc (.cells #[.int .i64 5, .string st, .int .i64 kk, .int .i64 kn, .string kt, .slice ra rl.length rc, .string fd] 133)) := ⟨_, rfl⟩
  rw [← hwa] at S1
  go_enter Tryz.func157, Tryz.ntmps157
  go_upto_region 1 with fail
  rw [← hwa]
  clear hwa
  obtain ⟨f0, f1, f2, f3, f4, f5, f6⟩ := Bag.cs7 S1.out 0 rfl
  go_wp2_with fail
  go_at_call 177
  refine (HOF.out _).mono ?_
  rintro e w1 ⟨rfl, hb⟩
  clear f0 f1 f2 f3 f4 f5 f6
  have S2 := Lib.hid (S1.out.keep hb)
  clear S1
  clear hb
  obtain ⟨f0, f1, f2, f3, f4, f5, f6⟩ := Bag.cs7 S2.out 0 rfl
  go_wp2_with fail
  go_ret
  exact ⟨by rfl, S2.out.old⟩
 ·
  skip
  have HOF := fun w => operationOf_any ⟨6, st, ⟨kk, kn, kt⟩, ⟨ra, rc, rl⟩, fd⟩ w
  unfold vv_Op at HOF
  dsimp only at HOF
  rw [ifO6] at HOF
  replace HOF := Lib.hid HOF
  have hnil := fun v w => nil_no 244 v w
  have asgetOp := not_getOp_incOp
  have HW : isW 6 = true := by decide
  rw [HW]
  clear HW
  have S1 := Lib.hid (show Sl.Sep w _ [_] from L4.push_box (Sl.Sep.start w) 133 #[.int .i64 6, .string st, .int .i64 kk, .int .i64 kn, .string kt, .slice ra rl.length rc, .string fd] (w.heap.size) (by simp))
  obtain ⟨wa, hwa⟩ : ∃ w_, w_ = (w.alloc (.cells #[.int .i64 6, .string st, .int .i64 kk, .int .i64 kn, .string kt, .slice ra rl.length rc, .string fd] 133)) := ⟨_, rfl⟩
  rw [← hwa] at S1
  go_enter Tryz.func157, Tryz.ntmps157
  go_upto_region 1 with fail
  rw [← hwa]
  clear hwa
  obtain ⟨f0, f1, f2, f3, f4, f5, f6⟩ := Bag.cs7 S1.out 0 rfl
  go_wp2_with fail
  go_at_call 177
  refine (HOF.out _).mono ?_
  rintro e w1 ⟨rfl, hb⟩
  clear f0 f1 f2 f3 f4 f5 f6
  have S2 := Lib.hid (S1.out.keep hb)
  clear S1
  clear hb
  obtain ⟨f0, f1, f2, f3, f4, f5, f6⟩ := Bag.cs7 S2.out 0 rfl
  go_wp2_with fail
  go_ret
  exact ⟨by rfl, S2.out.old⟩
 ·
  skip
  have HOF := fun w => operationOf_any ⟨kd, st, ⟨kk, kn, kt⟩, ⟨ra, rc, rl⟩, fd⟩ w
  unfold vv_Op at HOF
  dsimp only at HOF
  rw [ifO_no _ hno] at HOF
  replace HOF := Lib.hid HOF
  have hnil := nil_yes
  have asgetOp := not_getOp_nil
  have HW : isW kd = false := by unfold isW; rw [inB_no (by omega) (by omega) (by omega) (by omega) (by omega) (by omega)]; rfl
  rw [HW]
  clear HW
  have S1 := Lib.hid (show Sl.Sep w _ [_] from L4.push_box (Sl.Sep.start w) 133 #[.int .i64 kd, .string st, .int .i64 kk, .int .i64 kn, .string kt, .slice ra rl.length rc, .string fd] (w.heap.size) (by simp))
  obtain ⟨wa, hwa⟩ : ∃ w_, w_ = (w.alloc (.cells #[.int .i64 kd, .string st, .int .i64 kk, .int .i64 kn, .string kt, .slice ra rl.length rc, .string fd] 133)) := ⟨_, rfl⟩
  rw [← hwa] at S1
  go_enter Tryz.func157, Tryz.ntmps157
  go_upto_region 1 with fail
  rw [← hwa]
  clear hwa
  obtain ⟨f0, f1, f2, f3, f4, f5, f6⟩ := Bag.cs7 S1.out 0 rfl
  go_wp2_with fail
  go_at_call 177
  refine (HOF.out _).mono ?_
  rintro e w1 ⟨rfl, hb⟩
  clear f0 f1 f2 f3 f4 f5 f6
  have S2 := Lib.hid (S1.out.keep hb)
  clear S1
  clear hb
  obtain ⟨f0, f1, f2, f3, f4, f5, f6⟩ := Bag.cs7 S2.out 0 rfl
  go_wp2_with fail
  go_ret
  exact ⟨by rfl, S2.out.old⟩
end Go.Proofs.YthljdhfgphebnaaGreat.L9

set_option linter.unusedSimpArgs false
namespace Go.Proofs.YthljdhfgphebnaaGreat.L10
open V L6 L9
open L4 (K isK cmpK)
open L5 (F isR isN string_geq)
open Go.Op (bytesLess)
open Go.ChangeShapes Go.WideShapes Go.ChangeAt Go.RowKit Mem Sl Ex L2 Sv Bag

set_option maxHeartbeats 4000000 in
theorem conf11_any (x y : Y_Op) (g : Nat) (w : World) (hg : g < w.heap.size) (hx : w.cell? ⟨g, 0, none⟩ = some (.int .i64 x.f_Kind) ∧ w.cell? ⟨g, 1, none⟩ = some (.string x.f_Store) ∧ w.cell? ⟨g, 2, none⟩ = some (.int .i64 x.f_Key.kind) ∧ w.cell? ⟨g, 3, none⟩ = some (.int .i64 x.f_Key.n) ∧ w.cell? ⟨g, 4, none⟩ = some (.string x.f_Key.text) ∧ w.cell? ⟨g, 5, none⟩ = some (.slice x.f_Record.a x.f_Record.l.length x.f_Record.c) ∧ w.cell? ⟨g, 6, none⟩ = some (.string x.f_Field)) :
  Calls Tryz.prog 156 #[vv_Op y, .pointer (some ⟨g, 0, none⟩)] w fun e w' => e = .returned (.bool (confO (co_Op x) (co_Op y))) ∧ Below w.heap.size w w' := by
 have HK := Lib.hid (fun w' (h : Below w.heap.size w w') => (⟨(h.cell (p := ⟨g, 0, none⟩) hg).trans hx.1, (h.cell (p := ⟨g, 1, none⟩) hg).trans hx.2.1, (h.cell (p := ⟨g, 2, none⟩) hg).trans hx.2.2.1, (h.cell (p := ⟨g, 3, none⟩) hg).trans hx.2.2.2.1, (h.cell (p := ⟨g, 4, none⟩) hg).trans hx.2.2.2.2.1, (h.cell (p := ⟨g, 5, none⟩) hg).trans hx.2.2.2.2.2.1, (h.cell (p := ⟨g, 6, none⟩) hg).trans hx.2.2.2.2.2.2⟩ : w'.cell? ⟨g, 0, none⟩ = some (.int .i64 x.f_Kind) ∧ w'.cell? ⟨g, 1, none⟩ = some (.string x.f_Store) ∧ w'.cell? ⟨g, 2, none⟩ = some (.int .i64 x.f_Key.kind) ∧ w'.cell? ⟨g, 3, none⟩ = some (.int .i64 x.f_Key.n) ∧ w'.cell? ⟨g, 4, none⟩ = some (.string x.f_Key.text) ∧ w'.cell? ⟨g, 5, none⟩ = some (.slice x.f_Record.a x.f_Record.l.length x.f_Record.c) ∧ w'.cell? ⟨g, 6, none⟩ = some (.string x.f_Field)))
 clear hx
 obtain ⟨bw, hbw⟩ : ∃ b, isW x.f_Kind = b := ⟨_, rfl⟩
 obtain ⟨bw2, hbw2⟩ : ∃ b, isW y.f_Kind = b := ⟨_, rfl⟩
 have HIW := fun w' => isWrite_any x w'
 have HIW2 := fun w' => isWrite_any y w'
 rw [show (co_Op x).f_Kind = x.f_Kind from rfl, hbw] at HIW
 rw [show (co_Op y).f_Kind = y.f_Kind from rfl, hbw2] at HIW2
 unfold vv_Op at HIW HIW2 ⊢
 replace HIW := Lib.hid HIW
 replace HIW2 := Lib.hid HIW2
 obtain ⟨B, hB⟩ : ∃ b, confO (co_Op x) (co_Op y) = b := ⟨_, rfl⟩
 rw [hB]
 have HCO := Lib.hid (show B = (x.f_Store.toList == y.f_Store.toList && (bw || bw2)) from by rw [← hB, ← hbw, ← hbw2]; rfl)
 clear hB hbw hbw2
 have S1 := Lib.hid (show Sl.Sep w _ [_] from L4.push_box (Sl.Sep.start w) 133 #[.int .i64 y.f_Kind, .string y.f_Store, .int .i64 y.f_Key.kind, .int .i64 y.f_Key.n, .string y.f_Key.text, .slice y.f_Record.a y.f_Record.l.length y.f_Record.c, .string y.f_Field] (w.heap.size) (by simp))
 obtain ⟨wa, hwa⟩ : ∃ w_, w_ = (w.alloc (.cells #[.int .i64 y.f_Kind, .string y.f_Store, .int .i64 y.f_Key.kind, .int .i64 y.f_Key.n, .string y.f_Key.text, .slice y.f_Record.a y.f_Record.l.length y.f_Record.c, .string y.f_Field] 133)) := ⟨_, rfl⟩
 rw [← hwa] at S1
 go_enter Tryz.func156, Tryz.ntmps156
 go_upto_region 1 with fail
 rw [← hwa]
 clear hwa
 obtain ⟨f0, f1, f2, f3, f4, f5, f6⟩ := Bag.cs7 S1.out 0 rfl
 obtain ⟨f7, f8, f9, f10, f11, f12, f13⟩ := HK.out _ S1.out.old
 cases hs : x.f_Store.toList == y.f_Store.toList with
 | false =>
  have HV := Lib.hid (show B = false from by rw [HCO.out, hs]; rfl)
  go_wp2_with fail
  go_ret
  exact ⟨by rw [HV.out] <;> rfl, S1.out.old⟩
 | true =>
  cases bw with
  | true =>
   go_wp2_with fail
   go_at_call 157
   refine (HIW.out _).mono ?_
   rintro e w1 ⟨rfl, hb⟩
   clear f0 f1 f2 f3 f4 f5 f6 f7 f8 f9 f10 f11 f12 f13
   have S2 := Lib.hid (S1.out.keep hb)
   clear S1
   clear hb
   obtain ⟨f0, f1, f2, f3, f4, f5, f6⟩ := Bag.cs7 S2.out 0 rfl
   obtain ⟨f7, f8, f9, f10, f11, f12, f13⟩ := HK.out _ S2.out.old
   have HV := Lib.hid (show B = true from by rw [HCO.out, hs]; rfl)
   go_wp2_with fail
   go_ret
   exact ⟨by rw [HV.out] <;> rfl, S2.out.old⟩
  | false =>
   go_wp2_with fail
   go_at_call 157
   refine (HIW.out _).mono ?_
   rintro e w1 ⟨rfl, hb⟩
   clear f0 f1 f2 f3 f4 f5 f6 f7 f8 f9 f10 f11 f12 f13
   have S2 := Lib.hid (S1.out.keep hb)
   clear S1
   clear hb
   obtain ⟨f0, f1, f2, f3, f4, f5, f6⟩ := Bag.cs7 S2.out 0 rfl
   obtain ⟨f7, f8, f9, f10, f11, f12, f13⟩ := HK.out _ S2.out.old
   go_wp2_with fail
   go_at_call 157
   refine (HIW2.out _).mono ?_
   rintro e w2 ⟨rfl, hb⟩
   clear f0 f1 f2 f3 f4 f5 f6 f7 f8 f9 f10 f11 f12 f13
   have S3 := Lib.hid (S2.out.keep hb)
   clear S2
   clear hb
   obtain ⟨f0, f1, f2, f3, f4, f5, f6⟩ := Bag.cs7 S3.out 0 rfl
   obtain ⟨f7, f8, f9, f10, f11, f12, f13⟩ := HK.out _ S3.out.old
   cases bw2 with
   | true =>
    have HV := Lib.hid (show B = true from by rw [HCO.out, hs]; rfl)
    go_wp2_with fail
    go_ret
    exact ⟨by rw [HV.out] <;> rfl, S3.out.old⟩
   | false =>
    have HV := Lib.hid (show B = false from by rw [HCO.out, hs]; rfl)
    go_wp2_with fail
    go_ret
    exact ⟨by rw [HV.out] <;> rfl, S3.out.old⟩
set_option maxHeartbeats 2000000 in
theorem indexFunc_c11 (g1 : Nat) (f : Y_Op → Bool) (a : Option Addr) (c : Nat) (xs : List Y_Op) (hl : xs.length ≤ 1048576) (w : World) (hr : Reads w w.heap.size a (xs.flatMap cl_Op)) (hp : ∀ x ∈ xs, ∀ w', Below w.heap.size w w' → Calls Tryz.prog 156 #[vv_Op x, .pointer (some ⟨g1, 0, none⟩)] w' fun e w'' => e = .returned (.bool (f x)) ∧ Below w'.heap.size w' w'') :
  Calls Tryz.prog 176 #[.slice a xs.length c, .func (.func 156) #[] #[.pointer (some ⟨g1, 0, none⟩)]] w fun e w' => ∃ z : Int, e = .returned (.int .i64 z) ∧ xs.any f = decide (0 ≤ z) ∧ Below w.heap.size w w' := by
 have HR := Lib.hid (fun w' (h : Below w.heap.size w w') => hr.below h)
 have HP := Lib.hid hp
 obtain ⟨N, hN⟩ : ∃ n, n = xs.length := ⟨_, rfl⟩
 rw [← hN] at hl ⊢
 have hl' : (N : Int) ≤ 1048576 := by omega
 have HN := Lib.hid hN
 obtain ⟨B, hB⟩ : ∃ b, xs.any f = b := ⟨_, rfl⟩
 rw [hB]
 have HB := Lib.hid hB
 clear hN hr hp hB
 have S1 := Lib.hid (show Sl.Sep w w [] from Sl.Sep.start w)
 go_enter Tryz.func176, Tryz.ntmps176
 go_wp2_with fail
 go_loopw [8] (fun i wr => ∃ k : Nat, k ≤ N ∧ i = .int .i64 k ∧ Hid ((∀ j (hj : j < xs.length), j < k → f xs[j] = false) ∧ Sl.Sep w wr [])) (fun i _ => N - (intOf i).toNat)
 case atStart => exact ⟨0, Nat.zero_le _, rfl, And.intro (fun j hj h => absurd h (by omega)) S1.out⟩
 case round =>
  obtain ⟨k, hk, rfl, hrel⟩ := hrel
  have HA := Lib.hid hrel.out.1
  have S2 := Lib.hid hrel.out.2
  clear hrel S1
  by_cases hlt : (k : Int) < (N : Int)
  ·
   skip
   have hkl : k < xs.length := by have := HN.out; omega
   obtain ⟨x, hx⟩ : ∃ x, xs[k]? = some x := ⟨_, List.getElem?_eq_getElem hkl⟩
   obtain ⟨ad, e'⟩ := el_some cl_Op_len (by decide) (HR.out _ S2.out.old) hkl
   subst e'
   have HPX := Lib.hid (fun w' (h : Below w.heap.size w w') => HP.out x (List.mem_of_getElem? hx) w' h)
   have HK := Lib.hid (fun w' (h : Below w.heap.size w w') => el7 cl_Op_len (HR.out _ h) hx rfl)
   have HC := Lib.hid hx
   clear hx
   obtain ⟨b, hb⟩ : ∃ b, f x = b := ⟨_, rfl⟩
   rw [hb] at HPX
   have HBX := Lib.hid hb
   clear hb
   dsimp only [vv_Op] at HPX
   obtain ⟨f0, f1, f2, f3, f4, f5, f6⟩ := HK.out _ S2.out.old
   go_wp2_with fail
   go_at_call 156
   refine (HPX.out _ S2.out.old).mono ?_
   rintro e w3 ⟨rfl, hb⟩
   clear f0 f1 f2 f3 f4 f5 f6
   have S3 := Lib.hid (S2.out.keep hb)
   clear S2
   clear hb
   cases b with
   | true =>
    go_wp2_with fail
    go_ret
    exact ⟨(k : Int), rfl, by rw [← HB.out, L10.any_yes HC.out HBX.out]; exact (decide_eq_true (Int.natCast_nonneg k)).symm, S3.out.old⟩
   | false =>
    go_wp2_with fail
    go_roundw
    case rel => exact ⟨k + 1, by omega, by go_num, And.intro (fun j hj h => by
     by_cases e : j < k
     ·
      exact HA.out j hj e
     ·
      obtain rfl : j = k := by omega
      rw [(List.getElem?_eq_some_iff.1 HC.out).2]; exact HBX.out) S3.out⟩
    case measure => simp [intOf]; omega
  ·
   skip
   go_wp2_with fail
   go_ret
   exact ⟨-1, rfl, by rw [← HB.out, L10.any_no (fun j hj => HA.out j hj (by have := HN.out; omega))]; rfl, S2.out.old⟩
set_option maxHeartbeats 2000000 in
theorem containsFunc_c11 (g1 : Nat) (f : Y_Op → Bool) (a : Option Addr) (c : Nat) (xs : List Y_Op) (hl : xs.length ≤ 1048576) (w : World) (hr : Reads w w.heap.size a (xs.flatMap cl_Op)) (hp : ∀ x ∈ xs, ∀ w', Below w.heap.size w w' → Calls Tryz.prog 156 #[vv_Op x, .pointer (some ⟨g1, 0, none⟩)] w' fun e w'' => e = .returned (.bool (f x)) ∧ Below w'.heap.size w' w'') :
  Calls Tryz.prog 154 #[.slice a xs.length c, .func (.func 156) #[] #[.pointer (some ⟨g1, 0, none⟩)]] w fun e w' => e = .returned (.bool (xs.any f)) ∧ Below w.heap.size w w' := by
 have HIX := Lib.hid (indexFunc_c11 g1 f a c xs hl w hr hp)
 obtain ⟨N, hN⟩ : ∃ n, n = xs.length := ⟨_, rfl⟩
 rw [← hN] at HIX ⊢
 obtain ⟨B, hB⟩ : ∃ b, xs.any f = b := ⟨_, rfl⟩
 rw [hB] at HIX ⊢
 clear hN hr hp hl hB
 go_enter Tryz.func154, Tryz.ntmps154
 go_wp2_with fail
 go_at_call 176
 refine HIX.out.mono ?_
 rintro e w3 ⟨z, rfl, hz, hb⟩
 by_cases h0 : (0 : Int) ≤ z
 ·
  rw [decide_eq_true h0] at hz
  subst hz
  go_wp2_with fail
  go_ret
  exact ⟨by first | rfl | simp [h0], hb⟩
 ·
  rw [decide_eq_false h0] at hz
  subst hz
  go_wp2_with fail
  go_ret
  exact ⟨by first | rfl | simp [h0], hb⟩
set_option maxHeartbeats 4000000 in
theorem conf1_any (x : Y_Op) (g : Nat) (a2 : Option Addr) (c2 : Nat) (os2 : List Y_Op) (hl2 : os2.length ≤ 1048576) (w : World) (hg : g < w.heap.size) (h0 : w.cell? ⟨g, 0, none⟩ = some (.slice a2 os2.length c2)) (hr2 : Reads w w.heap.size a2 (os2.flatMap cl_Op)) :
  Calls Tryz.prog 155 #[vv_Op x, .pointer (some ⟨g, 0, none⟩)] w fun e w' => e = .returned (.bool ((coS_Op os2).any fun y => confO (co_Op x) y)) ∧ Below w.heap.size w w' := by
 have HR2 := Lib.hid (fun w' (h : Below w.heap.size w w') => ((hr2.below h).more h.size : Reads w' w'.heap.size a2 (os2.flatMap cl_Op)))
 have HK := Lib.hid (fun w' (h : Below w.heap.size w w') => (⟨(h.cell (p := ⟨g, 0, none⟩) hg).trans h0, trivial⟩ : w'.cell? ⟨g, 0, none⟩ = some (.slice a2 os2.length c2) ∧ True).1)
 clear h0 hr2
 have hmf : ∀ (fn : Fn) (first cap : Array Value) (w : World), (Instr.makeFunc fn first cap).run Tryz.prog w = .ok (.func fn first cap) w := fun _ _ _ _ => rfl
 unfold vv_Op
 rw [show (coS_Op os2).any (fun y => confO (co_Op x) y) = os2.any (fun y => confO (co_Op x) (co_Op y)) from by rw [coS_Op_eq, List.any_map]; rfl]
 obtain ⟨B, hB⟩ : ∃ b, os2.any (fun y => confO (co_Op x) (co_Op y)) = b := ⟨_, rfl⟩
 rw [hB]
 have S1 := Lib.hid (show Sl.Sep w _ [_] from L4.push_box (Sl.Sep.start w) 133 #[.int .i64 x.f_Kind, .string x.f_Store, .int .i64 x.f_Key.kind, .int .i64 x.f_Key.n, .string x.f_Key.text, .slice x.f_Record.a x.f_Record.l.length x.f_Record.c, .string x.f_Field] (w.heap.size) (by simp))
 obtain ⟨wa, hwa⟩ : ∃ w_, w_ = (w.alloc (.cells #[.int .i64 x.f_Kind, .string x.f_Store, .int .i64 x.f_Key.kind, .int .i64 x.f_Key.n, .string x.f_Key.text, .slice x.f_Record.a x.f_Record.l.length x.f_Record.c, .string x.f_Field] 133)) := ⟨_, rfl⟩
 rw [← hwa] at S1
 go_enter Tryz.func155, Tryz.ntmps155
 go_upto_region 1 with fail
 rw [← hwa]
 clear hwa
 have hlt := (S1.out.lies 0 _ rfl w.heap.size (by simp [L4.boxR])).2
 have hcs := Bag.cs7 S1.out 0 rfl
 have HCF := Lib.hid (containsFunc_c11 w.heap.size (fun y => confO (co_Op x) (co_Op y)) a2 c2 os2 hl2 wa (HR2.out _ S1.out.old) (fun y hy w' hb => conf11_any x y _ w' (Nat.lt_of_lt_of_le hlt hb.size) (⟨(hb.cell (p := ⟨w.heap.size, 0, none⟩) hlt).trans hcs.1, (hb.cell (p := ⟨w.heap.size, 1, none⟩) hlt).trans hcs.2.1, (hb.cell (p := ⟨w.heap.size, 2, none⟩) hlt).trans hcs.2.2.1, (hb.cell (p := ⟨w.heap.size, 3, none⟩) hlt).trans hcs.2.2.2.1, (hb.cell (p := ⟨w.heap.size, 4, none⟩) hlt).trans hcs.2.2.2.2.1, (hb.cell (p := ⟨w.heap.size, 5, none⟩) hlt).trans hcs.2.2.2.2.2.1, (hb.cell (p := ⟨w.heap.size, 6, none⟩) hlt).trans hcs.2.2.2.2.2.2⟩)))
 clear hlt hcs
 replace HCF := HCF.out
 rw [hB] at HCF
 replace HCF := Lib.hid HCF
 clear hB
 obtain ⟨N2, hN2⟩ : ∃ n, n = os2.length := ⟨_, rfl⟩
 rw [← hN2] at HK HCF
 clear hN2
 obtain ⟨f0, f1, f2, f3, f4, f5, f6⟩ := Bag.cs7 S1.out 0 rfl
 have fk := HK.out _ S1.out.old
 go_wp2_with fail
 go_at_call 154
 refine HCF.out.mono ?_
 rintro e w3 ⟨rfl, hb⟩
 clear fk
 clear f0 f1 f2 f3 f4 f5 f6
 have S2 := Lib.hid (S1.out.keep hb)
 clear S1
 clear hb
 go_wp2_with fail
 go_ret
 exact ⟨rfl, S2.out.old⟩
set_option maxHeartbeats 2000000 in
theorem indexFunc_c1 (g1 : Nat) (f : Y_Op → Bool) (a : Option Addr) (c : Nat) (xs : List Y_Op) (hl : xs.length ≤ 1048576) (w : World) (hr : Reads w w.heap.size a (xs.flatMap cl_Op)) (hp : ∀ x ∈ xs, ∀ w', Below w.heap.size w w' → Calls Tryz.prog 155 #[vv_Op x, .pointer (some ⟨g1, 0, none⟩)] w' fun e w'' => e = .returned (.bool (f x)) ∧ Below w'.heap.size w' w'') :
  Calls Tryz.prog 176 #[.slice a xs.length c, .func (.func 155) #[] #[.pointer (some ⟨g1, 0, none⟩)]] w fun e w' => ∃ z : Int, e = .returned (.int .i64 z) ∧ xs.any f = decide (0 ≤ z) ∧ Below w.heap.size w w' := by
 have HR := Lib.hid (fun w' (h : Below w.heap.size w w') => hr.below h)
 have HP := Lib.hid hp
 obtain ⟨N, hN⟩ : ∃ n, n = xs.length := ⟨_, rfl⟩
 rw [← hN] at hl ⊢
 have hl' : (N : Int) ≤ 1048576 := by omega
 have HN := Lib.hid hN
 obtain ⟨B, hB⟩ : ∃ b, xs.any f = b := ⟨_, rfl⟩
 rw [hB]
 have HB := Lib.hid hB
 clear hN hr hp hB
 have S1 := Lib.hid (show Sl.Sep w w [] from Sl.Sep.start w)
 go_enter Tryz.func176, Tryz.ntmps176
 go_wp2_with fail
 go_loopw [8] (fun i wr => ∃ k : Nat, k ≤ N ∧ i = .int .i64 k ∧ Hid ((∀ j (hj : j < xs.length), j < k → f xs[j] = false) ∧ Sl.Sep w wr [])) (fun i _ => N - (intOf i).toNat)
 case atStart => exact ⟨0, Nat.zero_le _, rfl, And.intro (fun j hj h => absurd h (by omega)) S1.out⟩
 case round =>
  obtain ⟨k, hk, rfl, hrel⟩ := hrel
  have HA := Lib.hid hrel.out.1
  have S2 := Lib.hid hrel.out.2
  clear hrel S1
  by_cases hlt : (k : Int) < (N : Int)
  ·
   skip
   have hkl : k < xs.length := by have := HN.out; omega
   obtain ⟨x, hx⟩ : ∃ x, xs[k]? = some x := ⟨_, List.getElem?_eq_getElem hkl⟩
   obtain ⟨ad, e'⟩ := el_some cl_Op_len (by decide) (HR.out _ S2.out.old) hkl
   subst e'
   have HPX := Lib.hid (fun w' (h : Below w.heap.size w w') => HP.out x (List.mem_of_getElem? hx) w' h)
   have HK := Lib.hid (fun w' (h : Below w.heap.size w w') => el7 cl_Op_len (HR.out _ h) hx rfl)
   have HC := Lib.hid hx
   clear hx
   obtain ⟨b, hb⟩ : ∃ b, f x = b := ⟨_, rfl⟩
   rw [hb] at HPX
   have HBX := Lib.hid hb
   clear hb
   dsimp only [vv_Op] at HPX
   obtain ⟨f0, f1, f2, f3, f4, f5, f6⟩ := HK.out _ S2.out.old
   go_wp2_with fail
   go_at_call 155
   refine (HPX.out _ S2.out.old).mono ?_
   rintro e w3 ⟨rfl, hb⟩
   clear f0 f1 f2 f3 f4 f5 f6
   have S3 := Lib.hid (S2.out.keep hb)
   clear S2
   clear hb
   cases b with
   | true =>
    go_wp2_with fail
    go_ret
    exact ⟨(k : Int), rfl, by rw [← HB.out, L10.any_yes HC.out HBX.out]; exact (decide_eq_true (Int.natCast_nonneg k)).symm, S3.out.old⟩
   | false =>
    go_wp2_with fail
    go_roundw
    case rel => exact ⟨k + 1, by omega, by go_num, And.intro (fun j hj h => by
     by_cases e : j < k
     ·
      exact HA.out j hj e
     ·
      obtain rfl : j = k := by omega
      rw [(List.getElem?_eq_some_iff.1 HC.out).2]; exact HBX.out) S3.out⟩
    case measure => simp [intOf]; omega
  ·
   skip
   go_wp2_with fail
   go_ret
   exact ⟨-1, rfl, by rw [← HB.out, L10.any_no (fun j hj => HA.out j hj (by have := HN.out; omega))]; rfl, S2.out.old⟩
set_option maxHeartbeats 2000000 in
theorem containsFunc_c1 (g1 : Nat) (f : Y_Op → Bool) (a : Option Addr) (c : Nat) (xs : List Y_Op) (hl : xs.length ≤ 1048576) (w : World) (hr : Reads w w.heap.size a (xs.flatMap cl_Op)) (hp : ∀ x ∈ xs, ∀ w', Below w.heap.size w w' → Calls Tryz.prog 155 #[vv_Op x, .pointer (some ⟨g1, 0, none⟩)] w' fun e w'' => e = .returned (.bool (f x)) ∧ Below w'.heap.size w' w'') :
  Calls Tryz.prog 154 #[.slice a xs.length c, .func (.func 155) #[] #[.pointer (some ⟨g1, 0, none⟩)]] w fun e w' => e = .returned (.bool (xs.any f)) ∧ Below w.heap.size w w' := by
 have HIX := Lib.hid (indexFunc_c1 g1 f a c xs hl w hr hp)
 obtain ⟨N, hN⟩ : ∃ n, n = xs.length := ⟨_, rfl⟩
 rw [← hN] at HIX ⊢
 obtain ⟨B, hB⟩ : ∃ b, xs.any f = b := ⟨_, rfl⟩
 rw [hB] at HIX ⊢
 clear hN hr hp hl hB
 go_enter Tryz.func154, Tryz.ntmps154
 go_wp2_with fail
 go_at_call 176
 refine HIX.out.mono ?_
 rintro e w3 ⟨z, rfl, hz, hb⟩
 by_cases h0 : (0 : Int) ≤ z
 ·
  rw [decide_eq_true h0] at hz
  subst hz
  go_wp2_with fail
  go_ret
  exact ⟨by first | rfl | simp [h0], hb⟩
 ·
  rw [decide_eq_false h0] at hz
  subst hz
  go_wp2_with fail
  go_ret
  exact ⟨by first | rfl | simp [h0], hb⟩
set_option maxHeartbeats 4000000 in
theorem conflicts_any (a : Option Addr) (c : Nat) (os : List Y_Op) (hl : os.length ≤ 1048576) (a2 : Option Addr) (c2 : Nat) (os2 : List Y_Op) (hl2 : os2.length ≤ 1048576) (w : World) (hr : Reads w w.heap.size a (os.flatMap cl_Op)) (hr2 : Reads w w.heap.size a2 (os2.flatMap cl_Op)) :
  Calls Tryz.prog 128 #[.slice a os.length c, .slice a2 os2.length c2] w fun e w' => e = .returned (.bool (conf (coS_Op os) (coS_Op os2))) ∧ Below w.heap.size w w' := by
 have HR2 := Lib.hid (fun w' (h : Below w.heap.size w w') => ((hr2.below h).more h.size : Reads w' w'.heap.size a2 (os2.flatMap cl_Op)))
 have HR := Lib.hid (fun w' (h : Below w.heap.size w w') => ((hr.below h).more h.size : Reads w' w'.heap.size a (os.flatMap cl_Op)))
 clear hr hr2
 have hmf : ∀ (fn : Fn) (first cap : Array Value) (w : World), (Instr.makeFunc fn first cap).run Tryz.prog w = .ok (.func fn first cap) w := fun _ _ _ _ => rfl
 rw [show conf (coS_Op os) (coS_Op os2) = os.any (fun x => (coS_Op os2).any fun y => confO (co_Op x) y) from by unfold conf; rw [coS_Op_eq os, List.any_map]; rfl]
 obtain ⟨B, hB⟩ : ∃ b, os.any (fun x => (coS_Op os2).any fun y => confO (co_Op x) y) = b := ⟨_, rfl⟩
 rw [hB]
 have S1 := Lib.hid (show Sl.Sep w _ [_] from L4.push_box (Sl.Sep.start w) 87 #[.slice a2 os2.length c2] (w.heap.size) (by simp))
 obtain ⟨wa, hwa⟩ : ∃ w_, w_ = (w.alloc (.cells #[.slice a2 os2.length c2] 87)) := ⟨_, rfl⟩
 rw [← hwa] at S1
 go_enter Tryz.func128, Tryz.ntmps128
 go_upto_region 1 with fail
 rw [← hwa]
 clear hwa
 have hlt := (S1.out.lies 0 _ rfl w.heap.size (by simp [L4.boxR])).2
 have hcs := Bag.cell_at S1.out 0 rfl 0 rfl
 have HCF := Lib.hid (containsFunc_c1 w.heap.size (fun x => (coS_Op os2).any fun y => confO (co_Op x) y) a c os hl wa (HR.out _ S1.out.old) (fun x hx w' hb => conf1_any x _ a2 c2 os2 hl2 w' (Nat.lt_of_lt_of_le hlt hb.size) ((hb.cell (p := ⟨w.heap.size, 0, none⟩) hlt).trans hcs) (HR2.out _ (S1.out.old.trans (hb.mono S1.out.old.size)))))
 clear hlt hcs
 replace HCF := HCF.out
 rw [hB] at HCF
 replace HCF := Lib.hid HCF
 clear hB hl
 have f0 := Bag.cs1 S1.out 0 rfl
 go_wp2_with fail
 go_at_call 154
 refine HCF.out.mono ?_
 rintro e w3 ⟨rfl, hb⟩
 clear f0
 have S2 := Lib.hid (S1.out.keep hb)
 clear S1
 clear hb
 go_wp2_with fail
 go_ret
 exact ⟨rfl, S2.out.old⟩
set_option maxHeartbeats 4000000 in
theorem isInState_any (a : Option Addr) (c : Nat) (ts : List Y_Tx) (hl : ts.length ≤ 1048576) (hf : ∀ t ∈ coS_Tx ts, FitT t) (i s : Int) (w : World) (hr : Reads w w.heap.size a (ts.flatMap cl_Tx)) (hx : RowsRd w w.heap.size (rws_Tx ts)) :
  Calls Tryz.prog 125 #[.agg #[.slice a ts.length c], .int .i64 i, .int .i64 s] w fun e w' => e = .returned (.bool (inSt (coS_Tx ts) i s)) ∧ Below w.heap.size w w' := by
 have HR := Lib.hid (fun w' (h : Below w.heap.size w w') => hr.below h)
 have HX := Lib.hid (fun w' (h : Below w.heap.size w w') => (hx.below h).more h.size)
 have HF := Lib.hid hf
 obtain ⟨N, hN⟩ : ∃ n, n = ts.length := ⟨_, rfl⟩
 rw [← hN] at hl ⊢
 have hl' : (N : Int) ≤ 1048576 := by omega
 have HN := Lib.hid hN
 clear hN hr hx hf
 have HSL := Lib.hid (show (coS_Tx ts).length = N from by rw [coT_len, HN.out])
 have hw1 : IntKind.i64.wrap ((N : Int) - 1) = (N : Int) - 1 := IntWalk.i64_in _ ⟨by omega, by omega⟩
 obtain ⟨bi, hbi⟩ : ∃ b, L1.inB i 0 ((N : Int) - 1) = b := ⟨_, rfl⟩
 have HIN := fun w => L1.inRange_any i 0 ((N : Int) - 1) w
 rw [hbi] at HIN
 replace HIN := Lib.hid HIN
 have HBI := Lib.hid hbi
 clear hbi
 obtain ⟨B, hB⟩ : ∃ b, inSt (coS_Tx ts) i s = b := ⟨_, rfl⟩
 rw [hB]
 have HB := Lib.hid hB
 clear hB
 have S1 := Lib.hid (show Sl.Sep w _ [_] from L4.push_box (Sl.Sep.start w) 56 #[.slice a N c] (w.heap.size) (by simp))
 obtain ⟨wa, hwa⟩ : ∃ w_, w_ = (w.alloc (.cells #[.slice a N c] 56)) := ⟨_, rfl⟩
 rw [← hwa] at S1
 go_enter Tryz.func125, Tryz.ntmps125
 go_upto_region 1 with fail
 rw [← hwa]
 clear hwa
 have f0 := Bag.cs1 S1.out 0 rfl
 cases bi with
 | false =>
  go_wp2_with fail
  go_at_call 46
  refine (HIN.out _).mono ?_
  rintro e w1 ⟨rfl, rfl⟩
  have HV := Lib.hid (show B = false from by rw [← HB.out]; exact inSt_out (by rw [HSL.out]; exact HBI.out))
  go_wp2_with fail
  go_ret
  exact ⟨by rw [HV.out] <;> rfl, S1.out.old⟩
 | true =>
  obtain ⟨k0, hk0⟩ : ∃ n : Nat, i = (n : Int) := ⟨i.toNat, by have h := L1.inB_true.1 HBI.out; omega⟩
  subst hk0
  have hkl : k0 < ts.length := by have h := L1.inB_true.1 HBI.out; have := HN.out; omega
  have hkN : (k0 : Int) < (N : Int) := by have := HN.out; omega
  clear f0
  obtain ⟨t, ht⟩ : ∃ x, ts[k0]? = some x := ⟨_, List.getElem?_eq_getElem hkl⟩
  obtain ⟨tad, e'⟩ := el_some cl_Tx_len (by decide) (HR.out _ S1.out.old) hkl
  subst e'
  have HKt := Lib.hid (fun w' (h : Below w.heap.size w w') => el5 cl_Tx_len (HR.out _ h) ht rfl)
  have HRt := Lib.hid (fun w' (h : Below w.heap.size w w') => rdTs (HX.out w' h) ht)
  have HCt := Lib.hid (coT_at ht)
  have HFt := Lib.hid (HF.out _ (List.mem_of_getElem? HCt.out))
  clear ht
  have f0 := Bag.cs1 S1.out 0 rfl
  obtain ⟨f1, f2, f3, f4, f5⟩ := HKt.out _ S1.out.old
  obtain ⟨bs, hbs⟩ : ∃ b, (t.f_State == s) = b := ⟨_, rfl⟩
  have HBS := Lib.hid hbs
  cases bs with
  | false =>
   go_wp2_with fail
   go_at_call 46
   refine (HIN.out _).mono ?_
   rintro e w1 ⟨rfl, rfl⟩
   have HV := Lib.hid (show B = false from by rw [← HB.out]; rw [inSt_at HCt.out]; exact HBS.out)
   go_wp2_with fail
   go_ret
   exact ⟨by rw [HV.out] <;> rfl, S1.out.old⟩
  | true =>
   go_wp2_with fail
   go_at_call 46
   refine (HIN.out _).mono ?_
   rintro e w1 ⟨rfl, rfl⟩
   have HV := Lib.hid (show B = true from by rw [← HB.out]; rw [inSt_at HCt.out]; exact HBS.out)
   go_wp2_with fail
   go_ret
   exact ⟨by rw [HV.out] <;> rfl, S1.out.old⟩
set_option maxHeartbeats 8000000 in
theorem canStart1_any (u : Y_Tx) (hfu : FitT (co_Tx u)) (g g2 k0 : Nat) (Z : X_Tx) (a : Option Addr) (c : Nat) (ts : List Y_Tx) (hl : ts.length ≤ 1048576) (hf : ∀ t ∈ coS_Tx ts, FitT t) (hz : (coS_Tx ts)[k0]? = some Z) (hk : k0 < ts.length) (w : World) (hru : RowsRd w w.heap.size (rw_Tx u)) (hr : Reads w w.heap.size a (ts.flatMap cl_Tx)) (hx : RowsRd w w.heap.size (rws_Tx ts))
  (hg : g < w.heap.size) (h0 : w.cell? ⟨g, 0, none⟩ = some (.slice a ts.length c)) (hg2 : g2 < w.heap.size) (h1 : w.cell? ⟨g2, 0, none⟩ = some (.int .i64 k0)) :
  Calls Tryz.prog 127 #[vv_Tx u, .pointer (some ⟨g, 0, none⟩), .pointer (some ⟨g2, 0, none⟩)] w fun e w' => e = .returned (.bool (holdsBack (co_Tx u) Z)) ∧ Below w.heap.size w w' := by
 have HRu := Lib.hid (fun w' (h : Below w.heap.size w w') => ((hru.below h).more h.size : RowsRd w' w'.heap.size (rw_Tx u)))
 have HR := Lib.hid (fun w' (h : Below w.heap.size w w') => hr.below h)
 have HX := Lib.hid (fun w' (h : Below w.heap.size w w') => (hx.below h).more h.size)
 have HF := Lib.hid hf
 have HFu := Lib.hid hfu
 have HK := Lib.hid (fun w' (h : Below w.heap.size w w') => (⟨(h.cell (p := ⟨g, 0, none⟩) hg).trans h0, (h.cell (p := ⟨g2, 0, none⟩) hg2).trans h1⟩ : w'.cell? ⟨g, 0, none⟩ = some (.slice a ts.length c) ∧ w'.cell? ⟨g2, 0, none⟩ = some (.int .i64 k0)))
 have S0 := Lib.hid (show Sl.Sep w w [] from Sl.Sep.start w)
 obtain ⟨N, hN⟩ : ∃ n, n = ts.length := ⟨_, rfl⟩
 rw [← hN] at HK hl
 have HN := Lib.hid hN
 have hkN : (k0 : Int) < (N : Int) := by omega
 clear hr hx hru hf hfu h0 h1 hN
 unfold vv_Tx
 obtain ⟨t, ht⟩ : ∃ x, ts[k0]? = some x := ⟨_, List.getElem?_eq_getElem hk⟩
 obtain ⟨tad, e'⟩ := el_some cl_Tx_len (by decide) (HR.out _ S0.out.old) hk
 subst e'
 have HKt := Lib.hid (fun w' (h : Below w.heap.size w w') => el5 cl_Tx_len (HR.out _ h) ht rfl)
 have HRt := Lib.hid (fun w' (h : Below w.heap.size w w') => rdTs (HX.out w' h) ht)
 have HCt := Lib.hid (coT_at ht)
 have HFt := Lib.hid (HF.out _ (List.mem_of_getElem? HCt.out))
 clear ht
 have HKS := Lib.hid (show ∀ w', Below w.heap.size w w' → _ from HK.out)
 skip
 clear S0 HKS
 have HZ := Lib.hid (show co_Tx t = Z from Option.some.inj (HCt.out.symm.trans hz))
 obtain ⟨bc, hbc⟩ : ∃ b, conf (coS_Op u.f_Ops) (coS_Op t.f_Ops) = b := ⟨_, rfl⟩
 have HCF := fun w' (h : Below w.heap.size w w') => conflicts_any u.f_Ops_a u.f_Ops_c u.f_Ops (by have h := HFu.out.len; rwa [show (co_Tx u).f_Ops = coS_Op u.f_Ops from rfl, coS_len] at h) t.f_Ops_a t.f_Ops_c t.f_Ops (by have h := HFt.out.len; rwa [show (co_Tx t).f_Ops = coS_Op t.f_Ops from rfl, coS_len] at h) w' (rdTo (HRu.out w' h)) (rdTo (HRt.out w' h))
 rw [hbc] at HCF
 replace HCF := Lib.hid HCF
 obtain ⟨B, hB⟩ : ∃ b, holdsBack (co_Tx u) Z = b := ⟨_, rfl⟩
 rw [hB]
 have HHB := Lib.hid (show B = ((u.f_State == 0 || u.f_State == 1) && bc) from by rw [← hB, ← hbc, ← HZ.out]; rfl)
 clear hbc hB
 have S1 := Lib.hid (show Sl.Sep w _ [_] from L4.push_box (Sl.Sep.start w) 89 #[.int .i64 u.f_Id, .slice u.f_Ops_a u.f_Ops.length u.f_Ops_c, .int .i64 u.f_At, .int .i64 u.f_State, .slice u.f_Backup_a u.f_Backup.length u.f_Backup_c] (w.heap.size) (by simp))
 obtain ⟨wa, hwa⟩ : ∃ w_, w_ = (w.alloc (.cells #[.int .i64 u.f_Id, .slice u.f_Ops_a u.f_Ops.length u.f_Ops_c, .int .i64 u.f_At, .int .i64 u.f_State, .slice u.f_Backup_a u.f_Backup.length u.f_Backup_c] 89)) := ⟨_, rfl⟩
 rw [← hwa] at S1
 go_enter Tryz.func127, Tryz.ntmps127
 go_upto_region 1 with fail
 rw [← hwa]
 clear hwa
 obtain ⟨f0, f1, f2, f3, f4⟩ := Bag.cs5 S1.out 0 rfl
 obtain ⟨f5, f6⟩ := HK.out _ S1.out.old
 obtain ⟨f7, f8, f9, f10, f11⟩ := HKt.out _ S1.out.old
 cases h0 : u.f_State == 0 with
 | true =>
  cases bc with
  | false =>
   go_upto_region 1 with fail
   clear f0 f1 f2 f3 f4 f5 f6 f7 f8 f9 f10 f11
   refine wp_region_held_drew (S := (fun w' => (w'.cell? ⟨w.heap.size, 0, none⟩ = some (.int .i64 u.f_Id) ∧ w'.cell? ⟨w.heap.size, 1, none⟩ = some (.slice u.f_Ops_a u.f_Ops.length u.f_Ops_c) ∧ w'.cell? ⟨w.heap.size, 2, none⟩ = some (.int .i64 u.f_At) ∧ w'.cell? ⟨w.heap.size, 3, none⟩ = some (.int .i64 u.f_State) ∧ w'.cell? ⟨w.heap.size, 4, none⟩ = some (.slice u.f_Backup_a u.f_Backup.length u.f_Backup_c)) ∧ (w'.cell? (⟨g, 0, none⟩) = some (.slice (some tad) N c) ∧ w'.cell? (⟨g2, 0, none⟩) = some (.int .i64 k0)) ∧ (w'.cell? (tad.add (k0 * 5)) = some (.int .i64 t.f_Id) ∧ w'.cell? (⟨(tad.add (k0 * 5)).block, (tad.add (k0 * 5)).off + 1, none⟩) = some (.slice t.f_Ops_a t.f_Ops.length t.f_Ops_c) ∧ w'.cell? (⟨(tad.add (k0 * 5)).block, (tad.add (k0 * 5)).off + 2, none⟩) = some (.int .i64 t.f_At) ∧ w'.cell? (⟨(tad.add (k0 * 5)).block, (tad.add (k0 * 5)).off + 3, none⟩) = some (.int .i64 t.f_State) ∧ w'.cell? (⟨(tad.add (k0 * 5)).block, (tad.add (k0 * 5)).off + 4, none⟩) = some (.slice t.f_Backup_a t.f_Backup.length t.f_Backup_c)))) (by kernel_rfl) ⟨Bag.cs5 (Bag.drew1 S1.out) 0 rfl, HK.out _ (Bag.drew1 S1.out).old, HKt.out _ (Bag.drew1 S1.out).old⟩ (fun hS => ?_)
   have S2 := Lib.hid (Bag.drew1 S1.out)
   clear S1
   generalize World.drew _ = w1 at hS S2 ⊢
   refine tk 0 rfl ?_
   try simp only [zp0, zp1, zp2, zp3, zp4]
   refine tk 1 rfl ?_
   try simp only [zp0, zp1, zp2, zp3, zp4]
   refine tk 2 rfl ?_
   try simp only [zp0, zp1, zp2, zp3, zp4]
   refine tk 3 rfl ?_
   try simp only [zp0, zp1, zp2, zp3, zp4]
   refine sk 4 rfl ?_
   try simp only [zp0, zp1, zp2, zp3, zp4]
   refine sk 5 rfl ?_
   try simp only [zp0, zp1, zp2, zp3, zp4]
   refine sk 6 rfl ?_
   try simp only [zp0, zp1, zp2, zp3, zp4]
   refine tk 7 rfl ?_
   try simp only [zp0, zp1, zp2, zp3, zp4]
   refine tk 8 rfl ?_
   try simp only [zp0, zp1, zp2, zp3, zp4]
   refine tk 9 rfl ?_
   try simp only [zp0, zp1, zp2, zp3, zp4]
   refine tk 10 rfl ?_
   try simp only [zp0, zp1, zp2, zp3, zp4]
   refine tk 11 rfl ?_
   try simp only [zp0, zp1, zp2, zp3, zp4]
   refine tk 12 rfl ?_
   try simp only [zp0, zp1, zp2, zp3, zp4]
   refine tk 13 rfl ?_
   try simp only [zp0, zp1, zp2, zp3, zp4]
   refine tk 14 rfl ?_
   try simp only [zp0, zp1, zp2, zp3, zp4]
   refine tk 15 rfl ?_
   try simp only [zp0, zp1, zp2, zp3, zp4]
   refine tk 16 rfl ?_
   try simp only [zp0, zp1, zp2, zp3, zp4]
   refine Reg.one_op (i := 17) rfl (by kernel_rfl) (fun K hK => ?_)
   go_simp
   go_at_call 128
   refine (HCF.out _ S2.out.old).mono ?_
   rintro e w2 ⟨rfl, hb⟩
   have S3 := Lib.hid (S2.out.keep hb)
   clear S2
   clear hb
   go_wp2_with fail
   refine hK.out _ _ ⟨Bag.cs5 S3.out 0 rfl, HK.out _ S3.out.old, HKt.out _ S3.out.old⟩ (fun hS => ?_)
   clear hK K
   try simp only [zp0, zp1, zp2, zp3, zp4]
   refine tk 18 rfl ?_
   try simp only [zp0, zp1, zp2, zp3, zp4]
   refine tk 19 rfl ?_
   try simp only [zp0, zp1, zp2, zp3, zp4]
   refine wpAnyH_done (by kernel_rfl) ?_ _
   obtain ⟨f0, f1, f2, f3, f4⟩ := Bag.cs5 S3.out 0 rfl
   obtain ⟨f5, f6⟩ := HK.out _ S3.out.old
   obtain ⟨f7, f8, f9, f10, f11⟩ := HKt.out _ S3.out.old
   have HV := Lib.hid (show B = false from by rw [HHB.out, h0]; rfl)
   go_wp2_with fail
   go_ret
   exact ⟨by rw [HV.out] <;> rfl, S3.out.old⟩
  | true =>
   go_upto_region 1 with fail
   clear f0 f1 f2 f3 f4 f5 f6 f7 f8 f9 f10 f11
   refine wp_region_held_drew (S := (fun w' => (w'.cell? ⟨w.heap.size, 0, none⟩ = some (.int .i64 u.f_Id) ∧ w'.cell? ⟨w.heap.size, 1, none⟩ = some (.slice u.f_Ops_a u.f_Ops.length u.f_Ops_c) ∧ w'.cell? ⟨w.heap.size, 2, none⟩ = some (.int .i64 u.f_At) ∧ w'.cell? ⟨w.heap.size, 3, none⟩ = some (.int .i64 u.f_State) ∧ w'.cell? ⟨w.heap.size, 4, none⟩ = some (.slice u.f_Backup_a u.f_Backup.length u.f_Backup_c)) ∧ (w'.cell? (⟨g, 0, none⟩) = some (.slice (some tad) N c) ∧ w'.cell? (⟨g2, 0, none⟩) = some (.int .i64 k0)) ∧ (w'.cell? (tad.add (k0 * 5)) = some (.int .i64 t.f_Id) ∧ w'.cell? (⟨(tad.add (k0 * 5)).block, (tad.add (k0 * 5)).off + 1, none⟩) = some (.slice t.f_Ops_a t.f_Ops.length t.f_Ops_c) ∧ w'.cell? (⟨(tad.add (k0 * 5)).block, (tad.add (k0 * 5)).off + 2, none⟩) = some (.int .i64 t.f_At) ∧ w'.cell? (⟨(tad.add (k0 * 5)).block, (tad.add (k0 * 5)).off + 3, none⟩) = some (.int .i64 t.f_State) ∧ w'.cell? (⟨(tad.add (k0 * 5)).block, (tad.add (k0 * 5)).off + 4, none⟩) = some (.slice t.f_Backup_a t.f_Backup.length t.f_Backup_c)))) (by kernel_rfl) ⟨Bag.cs5 (Bag.drew1 S1.out) 0 rfl, HK.out _ (Bag.drew1 S1.out).old, HKt.out _ (Bag.drew1 S1.out).old⟩ (fun hS => ?_)
   have S2 := Lib.hid (Bag.drew1 S1.out)
   clear S1
   generalize World.drew _ = w1 at hS S2 ⊢
   refine tk 0 rfl ?_
   try simp only [zp0, zp1, zp2, zp3, zp4]
   refine tk 1 rfl ?_
   try simp only [zp0, zp1, zp2, zp3, zp4]
   refine tk 2 rfl ?_
   try simp only [zp0, zp1, zp2, zp3, zp4]
   refine tk 3 rfl ?_
   try simp only [zp0, zp1, zp2, zp3, zp4]
   refine sk 4 rfl ?_
   try simp only [zp0, zp1, zp2, zp3, zp4]
   refine sk 5 rfl ?_
   try simp only [zp0, zp1, zp2, zp3, zp4]
   refine sk 6 rfl ?_
   try simp only [zp0, zp1, zp2, zp3, zp4]
   refine tk 7 rfl ?_
   try simp only [zp0, zp1, zp2, zp3, zp4]
   refine tk 8 rfl ?_
   try simp only [zp0, zp1, zp2, zp3, zp4]
   refine tk 9 rfl ?_
   try simp only [zp0, zp1, zp2, zp3, zp4]
   refine tk 10 rfl ?_
   try simp only [zp0, zp1, zp2, zp3, zp4]
   refine tk 11 rfl ?_
   try simp only [zp0, zp1, zp2, zp3, zp4]
   refine tk 12 rfl ?_
   try simp only [zp0, zp1, zp2, zp3, zp4]
   refine tk 13 rfl ?_
   try simp only [zp0, zp1, zp2, zp3, zp4]
   refine tk 14 rfl ?_
   try simp only [zp0, zp1, zp2, zp3, zp4]
   refine tk 15 rfl ?_
   try simp only [zp0, zp1, zp2, zp3, zp4]
   refine tk 16 rfl ?_
   try simp only [zp0, zp1, zp2, zp3, zp4]
   refine Reg.one_op (i := 17) rfl (by kernel_rfl) (fun K hK => ?_)
   go_simp
   go_at_call 128
   refine (HCF.out _ S2.out.old).mono ?_
   rintro e w2 ⟨rfl, hb⟩
   have S3 := Lib.hid (S2.out.keep hb)
   clear S2
   clear hb
   go_wp2_with fail
   refine hK.out _ _ ⟨Bag.cs5 S3.out 0 rfl, HK.out _ S3.out.old, HKt.out _ S3.out.old⟩ (fun hS => ?_)
   clear hK K
   try simp only [zp0, zp1, zp2, zp3, zp4]
   refine tk 18 rfl ?_
   try simp only [zp0, zp1, zp2, zp3, zp4]
   refine tk 19 rfl ?_
   try simp only [zp0, zp1, zp2, zp3, zp4]
   refine wpAnyH_done (by kernel_rfl) ?_ _
   obtain ⟨f0, f1, f2, f3, f4⟩ := Bag.cs5 S3.out 0 rfl
   obtain ⟨f5, f6⟩ := HK.out _ S3.out.old
   obtain ⟨f7, f8, f9, f10, f11⟩ := HKt.out _ S3.out.old
   have HV := Lib.hid (show B = true from by rw [HHB.out, h0]; rfl)
   go_wp2_with fail
   go_ret
   exact ⟨by rw [HV.out] <;> rfl, S3.out.old⟩
 | false =>
  cases h1 : u.f_State == 1 with
  | true =>
   cases bc with
   | false =>
    go_upto_region 1 with fail
    clear f0 f1 f2 f3 f4 f5 f6 f7 f8 f9 f10 f11
    refine wp_region_held_drew (S := (fun w' => (w'.cell? ⟨w.heap.size, 0, none⟩ = some (.int .i64 u.f_Id) ∧ w'.cell? ⟨w.heap.size, 1, none⟩ = some (.slice u.f_Ops_a u.f_Ops.length u.f_Ops_c) ∧ w'.cell? ⟨w.heap.size, 2, none⟩ = some (.int .i64 u.f_At) ∧ w'.cell? ⟨w.heap.size, 3, none⟩ = some (.int .i64 u.f_State) ∧ w'.cell? ⟨w.heap.size, 4, none⟩ = some (.slice u.f_Backup_a u.f_Backup.length u.f_Backup_c)) ∧ (w'.cell? (⟨g, 0, none⟩) = some (.slice (some tad) N c) ∧ w'.cell? (⟨g2, 0, none⟩) = some (.int .i64 k0)) ∧ (w'.cell? (tad.add (k0 * 5)) = some (.int .i64 t.f_Id) ∧ w'.cell? (⟨(tad.add (k0 * 5)).block, (tad.add (k0 * 5)).off + 1, none⟩) = some (.slice t.f_Ops_a t.f_Ops.length t.f_Ops_c) ∧ w'.cell? (⟨(tad.add (k0 * 5)).block, (tad.add (k0 * 5)).off + 2, none⟩) = some (.int .i64 t.f_At) ∧ w'.cell? (⟨(tad.add (k0 * 5)).block, (tad.add (k0 * 5)).off + 3, none⟩) = some (.int .i64 t.f_State) ∧ w'.cell? (⟨(tad.add (k0 * 5)).block, (tad.add (k0 * 5)).off + 4, none⟩) = some (.slice t.f_Backup_a t.f_Backup.length t.f_Backup_c)))) (by kernel_rfl) ⟨Bag.cs5 (Bag.drew1 S1.out) 0 rfl, HK.out _ (Bag.drew1 S1.out).old, HKt.out _ (Bag.drew1 S1.out).old⟩ (fun hS => ?_)
    have S2 := Lib.hid (Bag.drew1 S1.out)
    clear S1
    generalize World.drew _ = w1 at hS S2 ⊢
    refine tk 0 rfl ?_
    try simp only [zp0, zp1, zp2, zp3, zp4]
    refine tk 1 rfl ?_
    try simp only [zp0, zp1, zp2, zp3, zp4]
    refine tk 2 rfl ?_
    try simp only [zp0, zp1, zp2, zp3, zp4]
    refine tk 3 rfl ?_
    try simp only [zp0, zp1, zp2, zp3, zp4]
    refine tk 4 rfl ?_
    try simp only [zp0, zp1, zp2, zp3, zp4]
    refine tk 5 rfl ?_
    try simp only [zp0, zp1, zp2, zp3, zp4]
    refine tk 6 rfl ?_
    try simp only [zp0, zp1, zp2, zp3, zp4]
    refine tk 7 rfl ?_
    try simp only [zp0, zp1, zp2, zp3, zp4]
    refine tk 8 rfl ?_
    try simp only [zp0, zp1, zp2, zp3, zp4]
    refine tk 9 rfl ?_
    try simp only [zp0, zp1, zp2, zp3, zp4]
    refine tk 10 rfl ?_
    try simp only [zp0, zp1, zp2, zp3, zp4]
    refine tk 11 rfl ?_
    try simp only [zp0, zp1, zp2, zp3, zp4]
    refine tk 12 rfl ?_
    try simp only [zp0, zp1, zp2, zp3, zp4]
    refine tk 13 rfl ?_
    try simp only [zp0, zp1, zp2, zp3, zp4]
    refine tk 14 rfl ?_
    try simp only [zp0, zp1, zp2, zp3, zp4]
    refine tk 15 rfl ?_
    try simp only [zp0, zp1, zp2, zp3, zp4]
    refine tk 16 rfl ?_
    try simp only [zp0, zp1, zp2, zp3, zp4]
    refine Reg.one_op (i := 17) rfl (by kernel_rfl) (fun K hK => ?_)
    go_simp
    go_at_call 128
    refine (HCF.out _ S2.out.old).mono ?_
    rintro e w2 ⟨rfl, hb⟩
    have S3 := Lib.hid (S2.out.keep hb)
    clear S2
    clear hb
    go_wp2_with fail
    refine hK.out _ _ ⟨Bag.cs5 S3.out 0 rfl, HK.out _ S3.out.old, HKt.out _ S3.out.old⟩ (fun hS => ?_)
    clear hK K
    try simp only [zp0, zp1, zp2, zp3, zp4]
    refine tk 18 rfl ?_
    try simp only [zp0, zp1, zp2, zp3, zp4]
    refine tk 19 rfl ?_
    try simp only [zp0, zp1, zp2, zp3, zp4]
    refine wpAnyH_done (by kernel_rfl) ?_ _
    obtain ⟨f0, f1, f2, f3, f4⟩ := Bag.cs5 S3.out 0 rfl
    obtain ⟨f5, f6⟩ := HK.out _ S3.out.old
    obtain ⟨f7, f8, f9, f10, f11⟩ := HKt.out _ S3.out.old
    have HV := Lib.hid (show B = false from by rw [HHB.out, h0, h1]; rfl)
    go_wp2_with fail
    go_ret
    exact ⟨by rw [HV.out] <;> rfl, S3.out.old⟩
   | true =>
    go_upto_region 1 with fail
    clear f0 f1 f2 f3 f4 f5 f6 f7 f8 f9 f10 f11
    refine wp_region_held_drew (S := (fun w' => (w'.cell? ⟨w.heap.size, 0, none⟩ = some (.int .i64 u.f_Id) ∧ w'.cell? ⟨w.heap.size, 1, none⟩ = some (.slice u.f_Ops_a u.f_Ops.length u.f_Ops_c) ∧ w'.cell? ⟨w.heap.size, 2, none⟩ = some (.int .i64 u.f_At) ∧ w'.cell? ⟨w.heap.size, 3, none⟩ = some (.int .i64 u.f_State) ∧ w'.cell? ⟨w.heap.size, 4, none⟩ = some (.slice u.f_Backup_a u.f_Backup.length u.f_Backup_c)) ∧ (w'.cell? (⟨g, 0, none⟩) = some (.slice (some tad) N c) ∧ w'.cell? (⟨g2, 0, none⟩) = some (.int .i64 k0)) ∧ (w'.cell? (tad.add (k0 * 5)) = some (.int .i64 t.f_Id) ∧ w'.cell? (⟨(tad.add (k0 * 5)).block, (tad.add (k0 * 5)).off + 1, none⟩) = some (.slice t.f_Ops_a t.f_Ops.length t.f_Ops_c) ∧ w'.cell? (⟨(tad.add (k0 * 5)).block, (tad.add (k0 * 5)).off + 2, none⟩) = some (.int .i64 t.f_At) ∧ w'.cell? (⟨(tad.add (k0 * 5)).block, (tad.add (k0 * 5)).off + 3, none⟩) = some (.int .i64 t.f_State) ∧ w'.cell? (⟨(tad.add (k0 * 5)).block, (tad.add (k0 * 5)).off + 4, none⟩) = some (.slice t.f_Backup_a t.f_Backup.length t.f_Backup_c)))) (by kernel_rfl) ⟨Bag.cs5 (Bag.drew1 S1.out) 0 rfl, HK.out _ (Bag.drew1 S1.out).old, HKt.out _ (Bag.drew1 S1.out).old⟩ (fun hS => ?_)
    have S2 := Lib.hid (Bag.drew1 S1.out)
    clear S1
    generalize World.drew _ = w1 at hS S2 ⊢
    refine tk 0 rfl ?_
    try simp only [zp0, zp1, zp2, zp3, zp4]
    refine tk 1 rfl ?_
    try simp only [zp0, zp1, zp2, zp3, zp4]
    refine tk 2 rfl ?_
    try simp only [zp0, zp1, zp2, zp3, zp4]
    refine tk 3 rfl ?_
    try simp only [zp0, zp1, zp2, zp3, zp4]
    refine tk 4 rfl ?_
    try simp only [zp0, zp1, zp2, zp3, zp4]
    refine tk 5 rfl ?_
    try simp only [zp0, zp1, zp2, zp3, zp4]
    refine tk 6 rfl ?_
    try simp only [zp0, zp1, zp2, zp3, zp4]
    refine tk 7 rfl ?_
    try simp only [zp0, zp1, zp2, zp3, zp4]
    refine tk 8 rfl ?_
    try simp only [zp0, zp1, zp2, zp3, zp4]
    refine tk 9 rfl ?_
    try simp only [zp0, zp1, zp2, zp3, zp4]
    refine tk 10 rfl ?_
    try simp only [zp0, zp1, zp2, zp3, zp4]
    refine tk 11 rfl ?_
    try simp only [zp0, zp1, zp2, zp3, zp4]
    refine tk 12 rfl ?_
    try simp only [zp0, zp1, zp2, zp3, zp4]
    refine tk 13 rfl ?_
    try simp only [zp0, zp1, zp2, zp3, zp4]
    refine tk 14 rfl ?_
    try simp only [zp0, zp1, zp2, zp3, zp4]
    refine tk 15 rfl ?_
    try simp only [zp0, zp1, zp2, zp3, zp4]
    refine tk 16 rfl ?_
    try simp only [zp0, zp1, zp2, zp3, zp4]
    refine Reg.one_op (i := 17) rfl (by kernel_rfl) (fun K hK => ?_)
    go_simp
    go_at_call 128
    refine (HCF.out _ S2.out.old).mono ?_
    rintro e w2 ⟨rfl, hb⟩
    have S3 := Lib.hid (S2.out.keep hb)
    clear S2
    clear hb
    go_wp2_with fail
    refine hK.out _ _ ⟨Bag.cs5 S3.out 0 rfl, HK.out _ S3.out.old, HKt.out _ S3.out.old⟩ (fun hS => ?_)
    clear hK K
    try simp only [zp0, zp1, zp2, zp3, zp4]
    refine tk 18 rfl ?_
    try simp only [zp0, zp1, zp2, zp3, zp4]
    refine tk 19 rfl ?_
    try simp only [zp0, zp1, zp2, zp3, zp4]
    refine wpAnyH_done (by kernel_rfl) ?_ _
    obtain ⟨f0, f1, f2, f3, f4⟩ := Bag.cs5 S3.out 0 rfl
    obtain ⟨f5, f6⟩ := HK.out _ S3.out.old
    obtain ⟨f7, f8, f9, f10, f11⟩ := HKt.out _ S3.out.old
    have HV := Lib.hid (show B = true from by rw [HHB.out, h0, h1]; rfl)
    go_wp2_with fail
    go_ret
    exact ⟨by rw [HV.out] <;> rfl, S3.out.old⟩
  | false =>
   go_upto_region 1 with fail
   clear f0 f1 f2 f3 f4 f5 f6 f7 f8 f9 f10 f11
   refine wp_region_held_drew (S := (fun w' => (w'.cell? ⟨w.heap.size, 0, none⟩ = some (.int .i64 u.f_Id) ∧ w'.cell? ⟨w.heap.size, 1, none⟩ = some (.slice u.f_Ops_a u.f_Ops.length u.f_Ops_c) ∧ w'.cell? ⟨w.heap.size, 2, none⟩ = some (.int .i64 u.f_At) ∧ w'.cell? ⟨w.heap.size, 3, none⟩ = some (.int .i64 u.f_State) ∧ w'.cell? ⟨w.heap.size, 4, none⟩ = some (.slice u.f_Backup_a u.f_Backup.length u.f_Backup_c)) ∧ (w'.cell? (⟨g, 0, none⟩) = some (.slice (some tad) N c) ∧ w'.cell? (⟨g2, 0, none⟩) = some (.int .i64 k0)) ∧ (w'.cell? (tad.add (k0 * 5)) = some (.int .i64 t.f_Id) ∧ w'.cell? (⟨(tad.add (k0 * 5)).block, (tad.add (k0 * 5)).off + 1, none⟩) = some (.slice t.f_Ops_a t.f_Ops.length t.f_Ops_c) ∧ w'.cell? (⟨(tad.add (k0 * 5)).block, (tad.add (k0 * 5)).off + 2, none⟩) = some (.int .i64 t.f_At) ∧ w'.cell? (⟨(tad.add (k0 * 5)).block, (tad.add (k0 * 5)).off + 3, none⟩) = some (.int .i64 t.f_State) ∧ w'.cell? (⟨(tad.add (k0 * 5)).block, (tad.add (k0 * 5)).off + 4, none⟩) = some (.slice t.f_Backup_a t.f_Backup.length t.f_Backup_c)))) (by kernel_rfl) ⟨Bag.cs5 (Bag.drew1 S1.out) 0 rfl, HK.out _ (Bag.drew1 S1.out).old, HKt.out _ (Bag.drew1 S1.out).old⟩ (fun hS => ?_)
   have S2 := Lib.hid (Bag.drew1 S1.out)
   clear S1
   generalize World.drew _ = w1 at hS S2 ⊢
   refine tk 0 rfl ?_
   try simp only [zp0, zp1, zp2, zp3, zp4]
   refine tk 1 rfl ?_
   try simp only [zp0, zp1, zp2, zp3, zp4]
   refine tk 2 rfl ?_
   try simp only [zp0, zp1, zp2, zp3, zp4]
   refine tk 3 rfl ?_
   try simp only [zp0, zp1, zp2, zp3, zp4]
   refine tk 4 rfl ?_
   try simp only [zp0, zp1, zp2, zp3, zp4]
   refine tk 5 rfl ?_
   try simp only [zp0, zp1, zp2, zp3, zp4]
   refine tk 6 rfl ?_
   try simp only [zp0, zp1, zp2, zp3, zp4]
   refine tk 7 rfl ?_
   try simp only [zp0, zp1, zp2, zp3, zp4]
   refine tk 8 rfl ?_
   try simp only [zp0, zp1, zp2, zp3, zp4]
   refine sk 9 rfl ?_
   try simp only [zp0, zp1, zp2, zp3, zp4]
   refine sk 10 rfl ?_
   try simp only [zp0, zp1, zp2, zp3, zp4]
   refine sk 11 rfl ?_
   try simp only [zp0, zp1, zp2, zp3, zp4]
   refine sk 12 rfl ?_
   try simp only [zp0, zp1, zp2, zp3, zp4]
   refine sk 13 rfl ?_
   try simp only [zp0, zp1, zp2, zp3, zp4]
   refine sk 14 rfl ?_
   try simp only [zp0, zp1, zp2, zp3, zp4]
   refine sk 15 rfl ?_
   try simp only [zp0, zp1, zp2, zp3, zp4]
   refine sk 16 rfl ?_
   try simp only [zp0, zp1, zp2, zp3, zp4]
   refine Reg.skip_one (i := 17) rfl (by kernel_rfl) (by rfl) (by assumption) ?_
   try simp only [zp0, zp1, zp2, zp3, zp4]
   refine tk 18 rfl ?_
   try simp only [zp0, zp1, zp2, zp3, zp4]
   refine tk 19 rfl ?_
   try simp only [zp0, zp1, zp2, zp3, zp4]
   refine wpAnyH_done (by kernel_rfl) ?_ _
   obtain ⟨f0, f1, f2, f3, f4⟩ := Bag.cs5 S2.out 0 rfl
   obtain ⟨f5, f6⟩ := HK.out _ S2.out.old
   obtain ⟨f7, f8, f9, f10, f11⟩ := HKt.out _ S2.out.old
   have HV := Lib.hid (show B = false from by rw [HHB.out, h0, h1]; rfl)
   go_wp2_with fail
   go_ret
   exact ⟨by rw [HV.out] <;> rfl, S2.out.old⟩
set_option maxHeartbeats 2000000 in
theorem indexFunc_cs (g1 g2 : Nat) (f : Y_Tx → Bool) (a : Option Addr) (c : Nat) (xs : List Y_Tx) (hl : xs.length ≤ 1048576) (w : World) (hr : Reads w w.heap.size a (xs.flatMap cl_Tx)) (hp : ∀ x ∈ xs, ∀ w', Below w.heap.size w w' → Calls Tryz.prog 127 #[vv_Tx x, .pointer (some ⟨g1, 0, none⟩), .pointer (some ⟨g2, 0, none⟩)] w' fun e w'' => e = .returned (.bool (f x)) ∧ Below w'.heap.size w' w'') :
  Calls Tryz.prog 153 #[.slice a xs.length c, .func (.func 127) #[] #[.pointer (some ⟨g1, 0, none⟩), .pointer (some ⟨g2, 0, none⟩)]] w fun e w' => ∃ z : Int, e = .returned (.int .i64 z) ∧ xs.any f = decide (0 ≤ z) ∧ Below w.heap.size w w' := by
 have HR := Lib.hid (fun w' (h : Below w.heap.size w w') => hr.below h)
 have HP := Lib.hid hp
 obtain ⟨N, hN⟩ : ∃ n, n = xs.length := ⟨_, rfl⟩
 rw [← hN] at hl ⊢
 have hl' : (N : Int) ≤ 1048576 := by omega
 have HN := Lib.hid hN
 obtain ⟨B, hB⟩ : ∃ b, xs.any f = b := ⟨_, rfl⟩
 rw [hB]
 have HB := Lib.hid hB
 clear hN hr hp hB
 have S1 := Lib.hid (show Sl.Sep w w [] from Sl.Sep.start w)
 go_enter Tryz.func153, Tryz.ntmps153
 go_wp2_with fail
 go_loopw [8] (fun i wr => ∃ k : Nat, k ≤ N ∧ i = .int .i64 k ∧ Hid ((∀ j (hj : j < xs.length), j < k → f xs[j] = false) ∧ Sl.Sep w wr [])) (fun i _ => N - (intOf i).toNat)
 case atStart => exact ⟨0, Nat.zero_le _, rfl, And.intro (fun j hj h => absurd h (by omega)) S1.out⟩
 case round =>
  obtain ⟨k, hk, rfl, hrel⟩ := hrel
  have HA := Lib.hid hrel.out.1
  have S2 := Lib.hid hrel.out.2
  clear hrel S1
  by_cases hlt : (k : Int) < (N : Int)
  ·
   skip
   have hkl : k < xs.length := by have := HN.out; omega
   obtain ⟨x, hx⟩ : ∃ x, xs[k]? = some x := ⟨_, List.getElem?_eq_getElem hkl⟩
   obtain ⟨ad, e'⟩ := el_some cl_Tx_len (by decide) (HR.out _ S2.out.old) hkl
   subst e'
   have HPX := Lib.hid (fun w' (h : Below w.heap.size w w') => HP.out x (List.mem_of_getElem? hx) w' h)
   have HK := Lib.hid (fun w' (h : Below w.heap.size w w') => el5 cl_Tx_len (HR.out _ h) hx rfl)
   have HC := Lib.hid hx
   clear hx
   obtain ⟨b, hb⟩ : ∃ b, f x = b := ⟨_, rfl⟩
   rw [hb] at HPX
   have HBX := Lib.hid hb
   clear hb
   dsimp only [vv_Tx] at HPX
   obtain ⟨f0, f1, f2, f3, f4⟩ := HK.out _ S2.out.old
   go_wp2_with fail
   go_at_call 127
   refine (HPX.out _ S2.out.old).mono ?_
   rintro e w3 ⟨rfl, hb⟩
   clear f0 f1 f2 f3 f4
   have S3 := Lib.hid (S2.out.keep hb)
   clear S2
   clear hb
   cases b with
   | true =>
    go_wp2_with fail
    go_ret
    exact ⟨(k : Int), rfl, by rw [← HB.out, L10.any_yes HC.out HBX.out]; exact (decide_eq_true (Int.natCast_nonneg k)).symm, S3.out.old⟩
   | false =>
    go_wp2_with fail
    go_roundw
    case rel => exact ⟨k + 1, by omega, by go_num, And.intro (fun j hj h => by
     by_cases e : j < k
     ·
      exact HA.out j hj e
     ·
      obtain rfl : j = k := by omega
      rw [(List.getElem?_eq_some_iff.1 HC.out).2]; exact HBX.out) S3.out⟩
    case measure => simp [intOf]; omega
  ·
   skip
   go_wp2_with fail
   go_ret
   exact ⟨-1, rfl, by rw [← HB.out, L10.any_no (fun j hj => HA.out j hj (by have := HN.out; omega))]; rfl, S2.out.old⟩
set_option maxHeartbeats 2000000 in
theorem containsFunc_cs (g1 g2 : Nat) (f : Y_Tx → Bool) (a : Option Addr) (c : Nat) (xs : List Y_Tx) (hl : xs.length ≤ 1048576) (w : World) (hr : Reads w w.heap.size a (xs.flatMap cl_Tx)) (hp : ∀ x ∈ xs, ∀ w', Below w.heap.size w w' → Calls Tryz.prog 127 #[vv_Tx x, .pointer (some ⟨g1, 0, none⟩), .pointer (some ⟨g2, 0, none⟩)] w' fun e w'' => e = .returned (.bool (f x)) ∧ Below w'.heap.size w' w'') :
  Calls Tryz.prog 126 #[.slice a xs.length c, .func (.func 127) #[] #[.pointer (some ⟨g1, 0, none⟩), .pointer (some ⟨g2, 0, none⟩)]] w fun e w' => e = .returned (.bool (xs.any f)) ∧ Below w.heap.size w w' := by
 have HIX := Lib.hid (indexFunc_cs g1 g2 f a c xs hl w hr hp)
 obtain ⟨N, hN⟩ : ∃ n, n = xs.length := ⟨_, rfl⟩
 rw [← hN] at HIX ⊢
 obtain ⟨B, hB⟩ : ∃ b, xs.any f = b := ⟨_, rfl⟩
 rw [hB] at HIX ⊢
 clear hN hr hp hl hB
 go_enter Tryz.func126, Tryz.ntmps126
 go_wp2_with fail
 go_at_call 153
 refine HIX.out.mono ?_
 rintro e w3 ⟨z, rfl, hz, hb⟩
 by_cases h0 : (0 : Int) ≤ z
 ·
  rw [decide_eq_true h0] at hz
  subst hz
  go_wp2_with fail
  go_ret
  exact ⟨by first | rfl | simp [h0], hb⟩
 ·
  rw [decide_eq_false h0] at hz
  subst hz
  go_wp2_with fail
  go_ret
  exact ⟨by first | rfl | simp [h0], hb⟩
set_option maxHeartbeats 8000000 in
theorem canStart_any (a : Option Addr) (c : Nat) (ts : List Y_Tx) (hl : ts.length ≤ 1048576) (hf : ∀ t ∈ coS_Tx ts, FitT t) (hcp : ts.length ≤ c) (i : Int) (w : World) (hr : Reads w w.heap.size a (ts.flatMap cl_Tx)) (hx : RowsRd w w.heap.size (rws_Tx ts)) :
  Calls Tryz.prog 87 #[.agg #[.slice a ts.length c], .int .i64 i] w fun e w' => e = .returned (.bool (csQ (coS_Tx ts) i)) ∧ Below w.heap.size w w' := by
 have HIS := Lib.hid (fun w' (h : Below w.heap.size w w') => isInState_any a c ts hl hf i 0 w' ((hr.below h).more h.size) ((hx.below h).more h.size))
 have HRW := Lib.hid (fun w' (h : Below w.heap.size w w') => ((hr.below h).more h.size : Reads w' w'.heap.size a (ts.flatMap cl_Tx)))
 have HFL := Lib.hid (And.intro hf hl)
 have hmf : ∀ (fn : Fn) (first cap : Array Value) (w : World), (Instr.makeFunc fn first cap).run Tryz.prog w = .ok (.func fn first cap) w := fun _ _ _ _ => rfl
 have HR := Lib.hid (fun w' (h : Below w.heap.size w w') => hr.below h)
 have HX := Lib.hid (fun w' (h : Below w.heap.size w w') => (hx.below h).more h.size)
 have HF := Lib.hid hf
 obtain ⟨N, hN⟩ : ∃ n, n = ts.length := ⟨_, rfl⟩
 rw [← hN] at hl ⊢
 have hl' : (N : Int) ≤ 1048576 := by omega
 have HN := Lib.hid hN
 clear hN hr hx hf
 rw [← HN.out] at HIS
 obtain ⟨bi, hbi⟩ : ∃ b, inSt (coS_Tx ts) i 0 = b := ⟨_, rfl⟩
 replace HIS := HIS.out
 rw [hbi] at HIS
 replace HIS := Lib.hid HIS
 have HBI := Lib.hid hbi
 clear hbi
 have HSL := Lib.hid (show (coS_Tx ts).length = N from by rw [coT_len, HN.out])
 obtain ⟨B, hB⟩ : ∃ b, csQ (coS_Tx ts) i = b := ⟨_, rfl⟩
 rw [hB]
 have HB := Lib.hid hB
 clear hB
 have S1 := Lib.hid (show Sl.Sep w _ [_, _] from L4.push_box (L4.push_box (Sl.Sep.start w) 56 #[.slice a N c] (w.heap.size) (by simp)) 3 #[.int .i64 i] (w.heap.size + 1) (by simp))
 obtain ⟨wa, hwa⟩ : ∃ w_, w_ = ((w.alloc (.cells #[.slice a N c] 56)).alloc (.cells #[.int .i64 i] 3)) := ⟨_, rfl⟩
 rw [← hwa] at S1
 go_enter Tryz.func87, Tryz.ntmps87
 go_upto_region 1 with fail
 rw [← hwa]
 clear hwa
 have f0 := Bag.cs1 S1.out 0 rfl
 have f1 := Bag.cs1 S1.out 1 rfl
 cases bi with
 | false =>
  go_wp2_with fail
  go_at_call 125
  refine (HIS.out _ S1.out.old).mono ?_
  rintro e w1 ⟨rfl, hb⟩
  clear f0 f1
  have S2 := Lib.hid (S1.out.keep hb)
  clear S1
  clear hb
  have f0 := Bag.cs1 S2.out 0 rfl
  have f1 := Bag.cs1 S2.out 1 rfl
  have HV := Lib.hid (show B = false from by rw [← HB.out]; exact csQ_not HBI.out)
  go_wp2_with fail
  go_ret
  exact ⟨by rw [HV.out] <;> rfl, S2.out.old⟩
 | true =>
  obtain ⟨k0, t, hk0, hct, hst⟩ := inSt_yes HBI.out
  subst hk0
  have HCt := Lib.hid hct
  have HST := Lib.hid hst
  have hkl : k0 < ts.length := by have h := (List.getElem?_eq_some_iff.1 hct).1; rwa [coT_len] at h
  have hkN : (k0 : Int) ≤ (N : Int) := by have := HN.out; omega
  have hkN2 : k0 ≤ N := by omega
  clear hct hst
  go_wp2_with fail
  go_at_call 125
  refine (HIS.out _ S1.out.old).mono ?_
  rintro e w1 ⟨rfl, hb⟩
  clear f0 f1
  have S2 := Lib.hid (S1.out.keep hb)
  clear S1
  clear hb
  have f0 := Bag.cs1 S2.out 0 rfl
  have f1 := Bag.cs1 S2.out 1 rfl
  have hlt := (S2.out.lies 0 _ rfl w.heap.size (by simp [L4.boxR])).2
  have hlt2 := (S2.out.lies 1 _ rfl (w.heap.size + 1) (by simp [L4.boxR])).2
  have hc0 := Bag.cell_at S2.out 0 rfl 0 rfl
  have hc1 := Bag.cell_at S2.out 1 rfl 0 rfl
  have hcap : N ≤ c := by rw [HN.out]; exact hcp
  have hcap2 : (k0 : Int) ≤ (c : Int) := by omega
  have hold := S2.out.old
  have HCF := containsFunc_cs w.heap.size (w.heap.size + 1) (fun u => holdsBack (co_Tx u) t) a c (ts.take k0) (by rw [List.length_take]; omega) w1 (reads_take (HRW.out _ hold) k0) (fun u hu w' hb => by
   obtain ⟨j, hj, rfl⟩ := List.mem_iff_getElem.1 hu
   rw [List.getElem_take]
   have hjt : j < ts.length := by rw [List.length_take] at hj; omega
   have hb2 := hold.trans (hb.mono hold.size)
   refine canStart1_any ts[j] (HFL.out.1 _ (List.mem_of_getElem? (coT_at (List.getElem?_eq_getElem hjt)))) _ _ k0 t a c ts HFL.out.2 HFL.out.1 HCt.out hkl w' (rdTs (HX.out _ hb2) (List.getElem?_eq_getElem hjt)) (HRW.out _ hb2) (HX.out _ hb2) (Nat.lt_of_lt_of_le hlt hb.size) ((hb.cell (p := ⟨w.heap.size, 0, none⟩) hlt).trans (by rw [← HN.out]; exact hc0)) (Nat.lt_of_lt_of_le hlt2 hb.size) ((hb.cell (p := ⟨w.heap.size + 1, 0, none⟩) hlt2).trans hc1))
  rw [List.length_take, Nat.min_eq_left (show k0 ≤ ts.length by omega)] at HCF
  obtain ⟨bh, hbh⟩ : ∃ b, (ts.take k0).any (fun u => holdsBack (co_Tx u) t) = b := ⟨_, rfl⟩
  rw [hbh] at HCF
  have HBH := Lib.hid (show ((coS_Tx ts).take k0).any (fun u => holdsBack u t) = bh from by rw [← hbh, coS_Tx_eq, ← List.map_take, List.any_map]; rfl)
  clear hbh hlt hlt2 hc0 hc1 hold
  replace HCF := Lib.hid HCF
  clear f0 f1
  have f0 := Bag.cs1 S2.out 0 rfl
  have f1 := Bag.cs1 S2.out 1 rfl
  go_wp2_with fail
  go_at_call 126
  refine HCF.out.mono ?_
  rintro e w3 ⟨rfl, hb⟩
  clear f0 f1
  have S3 := Lib.hid (S2.out.keep hb)
  clear S2
  clear hb
  cases bh with
  | false =>
   have HV := Lib.hid (show B = true from by rw [← HB.out]; rw [csQ_at HCt.out HST.out, HBH.out]; rfl)
   go_wp2_with fail
   go_ret
   exact ⟨by rw [HV.out] <;> rfl, S3.out.old⟩
  | true =>
   have HV := Lib.hid (show B = false from by rw [← HB.out]; rw [csQ_at HCt.out HST.out, HBH.out]; rfl)
   go_wp2_with fail
   go_ret
   exact ⟨by rw [HV.out] <;> rfl, S3.out.old⟩
end Go.Proofs.YthljdhfgphebnaaGreat.L10

namespace Go.Proofs.YthljdhfgphebnaaGreat.V
open Go.ChangeShapes Go.WideShapes Go.ChangeAt Go.RowKit Mem Sl Sv Bag

theorem infoE_Op : ∃ i, Tryz.prog.info? 133 = some i ∧ i.zero = some (.agg #[.int .i64 0, .string ⟨#[]⟩, .int .i64 0, .int .i64 0, .string ⟨#[]⟩, .slice none 0 0, .string ⟨#[]⟩]) ∧ i.size = 7 ∧ i.bytes = 96 := Ex.infoOf _ _ _ _ (by kernel_rfl)
def Copied_Op (w : World) (x : Y_Op) (e : Ending) (w' : World) : Prop := ∃ y : Y_Op, e = .returned (vv_Op y) ∧ co_Op y = co_Op x ∧ BagOwn w' w.heap.size (rw_Op y) ∧ Below w.heap.size w w'
def CopiedS_Op (w : World) (xs : List Y_Op) (e : Ending) (w' : World) : Prop := ∃ (g : Nat) (ys : List Y_Op), e = .returned (.slice (some ⟨g, 0, none⟩) ys.length ys.length) ∧ coS_Op ys = coS_Op xs ∧ BagOwn w' w.heap.size (rs_Op (some ⟨g, 0, none⟩) ys.length ys) ∧ Below w.heap.size w w'
set_option maxHeartbeats 4000000 in
theorem copyEach_Op (hco : ∀ (x : Y_Op) (hf : L9.FitO (co_Op x)) (w : World) (hr : RowsRd w w.heap.size (rw_Op x)), Calls Tryz.prog 152 #[vv_Op x] w (Copied_Op w x))
  (a : Option Addr) (c : Nat) (xs : List Y_Op) (hl : xs.length ≤ 1048576) (hf : ∀ x ∈ xs, L9.FitO (co_Op x)) (w : World) (hr : Reads w w.heap.size a (xs.flatMap cl_Op)) (hx : RowsRd w w.heap.size (rws_Op xs)) :
  Calls Tryz.prog 151 #[.slice a xs.length c, .func (.func 152) #[] #[]] w (CopiedS_Op w xs) := by
 obtain ⟨i0, hi1, hi2, hi3, hi4⟩ := infoE_Op
 have HI := Lib.hid (And.intro hi1 (And.intro hi2 (And.intro hi3 hi4)))
 clear hi1 hi2 hi3 hi4
 have HR := Lib.hid (fun w' (h : Below w.heap.size w w') => hr.below h)
 have HX := Lib.hid (fun w' (h : Below w.heap.size w w') => (hx.below h).more h.size)
 have HF := Lib.hid hf
 have HCO := Lib.hid hco
 obtain ⟨N, hN⟩ : ∃ n, n = xs.length := ⟨_, rfl⟩
 rw [← hN] at hl ⊢
 have hl' : (N : Int) ≤ 1048576 := by omega
 have HN := Lib.hid hN
 clear hN hr hx hf hco
 obtain ⟨Z, hZ⟩ : ∃ Z, Z = (madeCells (Value.agg #[.int .i64 0, .string ⟨#[]⟩, .int .i64 0, .int .i64 0, .string ⟨#[]⟩, .slice none 0 0, .string ⟨#[]⟩]).cells (N * 7)).toList := ⟨_, rfl⟩
 have HZ := Lib.hid (show Z.length = N * 7 by rw [hZ]; simp [madeCells])
 have HZD := Lib.hid hZ
 clear hZ
 have S1 := Lib.hid (show Sl.Sep w w [] from Sl.Sep.start w)
 go_enter Tryz.func151, Tryz.ntmps151
 go_upto_region 2 with (at_make; refine Run.wpList_make_s S1.out rfl _ _ 87 rfl 133 i0 (.agg #[.int .i64 0, .string ⟨#[]⟩, .int .i64 0, .int .i64 0, .string ⟨#[]⟩, .slice none 0 0, .string ⟨#[]⟩]) 7 Tryz.underlying87 HI.out.1 HI.out.2.1 HI.out.2.2.1 _ _ N rfl rfl (by rw [HI.out.2.2.2]; omega) (by unfold maxLen; omega) ?_; intro w1 S')
 obtain ⟨g1, hg⟩ : ∃ g', g' = w.heap.size := ⟨_, rfl⟩
 rw [← hg] at S' ⊢
 clear hg
 have S2 := Lib.hid (show Sl.Sep w _ [Sv.ownV 133 7 (some ⟨g1, 0, none⟩) N N (([] : List Y_Op).flatMap cl_Op ++ Z)] from (by have h := S'; rw [← HZD.out] at h; exact h))
 clear S1
 clear S'
 have S3 := Lib.hid (show Sl.Sep w _ [_, Bag.bag (rws_Op [])] from Bag.push_bag S2.out (Below.refl _ _) (by rw [rws_Op_eq]; exact Bag.BagOwn.nil _ _))
 clear S2
 go_wp2_with fail
 go_loopw [13] (fun i wr => ∃ (k : Nat) (ys : List Y_Op) (Zs : List Value), k ≤ N ∧ i = .int .i64 k ∧ Hid ((ys.map co_Op = (xs.take k).map co_Op ∧ ys.length = k ∧ Zs.length = (N - k) * 7) ∧ Sl.Sep w wr [Sv.ownV 133 7 (some ⟨g1, 0, none⟩) N N (ys.flatMap cl_Op ++ Zs), Bag.bag (rws_Op ys)])) (fun i _ => N - (intOf i).toNat)
 case atStart => exact ⟨0, [], Z, Nat.zero_le _, rfl, And.intro ⟨rfl, rfl, HZ.out⟩ S3.out⟩
 case round =>
  obtain ⟨k, ys, Zs, hk, rfl, hrel⟩ := hrel
  have HC := Lib.hid hrel.out.1
  have S4 := Lib.hid hrel.out.2
  clear hrel S3
  by_cases hlt : (k : Int) < (N : Int)
  ·
   skip
   have hkl : k < xs.length := by have := HN.out; omega
   obtain ⟨x, hx⟩ : ∃ x, xs[k]? = some x := ⟨_, List.getElem?_eq_getElem hkl⟩
   obtain ⟨ad, e'⟩ := el_some cl_Op_len (by decide) (HR.out _ S4.out.old) hkl
   subst e'
   have HK := Lib.hid (fun w' (h : Below w.heap.size w w') => el7 cl_Op_len (HR.out _ h) hx rfl)
   have HTX := Lib.hid (take_next hx)
   have HL := Lib.hid (show (ys.flatMap cl_Op).length = k * 7 ∧ k * 7 + 7 ≤ (ys.flatMap cl_Op ++ Zs).length ∧ 7 ≤ Zs.length from by have h1 := HC.out.2.1; have h2 := HC.out.2.2; rw [List.length_append, flat_len cl_Op_len, h1, h2]; omega)
   have HCI := Lib.hid (fun w' (h : Below w.heap.size w w') => HCO.out x (HF.out x (List.mem_of_getElem? hx)) w' (rd_el (rw_ := rw_Op) (by rw [← rws_Op_eq]; exact HX.out w' h) hx))
   dsimp only [vv_Op] at HCI
   clear hx
   obtain ⟨f0, f1, f2, f3, f4, f5, f6⟩ := HK.out _ S4.out.old
   go_upto_region 5 with fail
   clear f0 f1 f2 f3 f4 f5 f6
   have S5 := Lib.hid (show Sl.Sep w _ [_, _, _] from L4.push_box S4.out 133 #[.int .i64 x.f_Kind, .string x.f_Store, .int .i64 x.f_Key.kind, .int .i64 x.f_Key.n, .string x.f_Key.text, .slice x.f_Record.a x.f_Record.l.length x.f_Record.c, .string x.f_Field] wr.heap.size rfl)
   clear S4
   obtain ⟨g2, hg⟩ : ∃ g', g' = wr.heap.size := ⟨_, rfl⟩
   rw [← hg] at S5 ⊢
   clear hg
   generalize wr.alloc (.cells #[.int .i64 x.f_Kind, .string x.f_Store, .int .i64 x.f_Key.kind, .int .i64 x.f_Key.n, .string x.f_Key.text, .slice x.f_Record.a x.f_Record.l.length x.f_Record.c, .string x.f_Field] 133) = w2 at S5 ⊢
   obtain ⟨f0, f1, f2, f3, f4, f5, f6⟩ := Bag.cs7 S5.out 2 rfl
   obtain ⟨f7, f8, f9, f10, f11, f12, f13⟩ := HK.out _ S5.out.old
   go_wp2_with fail
   go_at_call 152
   refine (HCI.out _ S5.out.old).mono ?_
   rintro e w3 ⟨y, rfl, hcy, ho, hb⟩
   clear f0 f1 f2 f3 f4 f5 f6 f7 f8 f9 f10 f11 f12 f13
   have S6 := Lib.hid (show Sl.Sep w _ [_, _, L4.boxR g2 133 #[.int .i64 x.f_Kind, .string x.f_Store, .int .i64 x.f_Key.kind, .int .i64 x.f_Key.n, .string x.f_Key.text, .slice x.f_Record.a x.f_Record.l.length x.f_Record.c, .string x.f_Field], Bag.bag (rw_Op y)] from Bag.push_bag S5.out hb ho)
   clear S5
   clear hb ho
   have HCY := Lib.hid hcy
   clear hcy
   try dsimp only [vv_Op]
   have q0 := (Sv.own_at S6.out 0 rfl).cell (k * 7) (by have := HL.out.2.1; omega)
   have z0 := (Sv.own_at S6.out 0 rfl).free (k * 7)
   have q1 := (Sv.own_at S6.out 0 rfl).cell (k * 7 + 1) (by have := HL.out.2.1; omega)
   have z1 := (Sv.own_at S6.out 0 rfl).free (k * 7 + 1)
   have q2 := (Sv.own_at S6.out 0 rfl).cell (k * 7 + 2) (by have := HL.out.2.1; omega)
   have z2 := (Sv.own_at S6.out 0 rfl).free (k * 7 + 2)
   have q3 := (Sv.own_at S6.out 0 rfl).cell (k * 7 + 3) (by have := HL.out.2.1; omega)
   have z3 := (Sv.own_at S6.out 0 rfl).free (k * 7 + 3)
   have q4 := (Sv.own_at S6.out 0 rfl).cell (k * 7 + 4) (by have := HL.out.2.1; omega)
   have z4 := (Sv.own_at S6.out 0 rfl).free (k * 7 + 4)
   have q5 := (Sv.own_at S6.out 0 rfl).cell (k * 7 + 5) (by have := HL.out.2.1; omega)
   have z5 := (Sv.own_at S6.out 0 rfl).free (k * 7 + 5)
   have q6 := (Sv.own_at S6.out 0 rfl).cell (k * 7 + 6) (by have := HL.out.2.1; omega)
   have z6 := (Sv.own_at S6.out 0 rfl).free (k * 7 + 6)
   go_wp2_with fail
   clear q0 z0 q1 z1 q2 z2 q3 z3 q4 z4 q5 z5 q6 z6
   have S7 := Lib.hid (show Sl.Sep w (World.setCells w3 g1 (k * 7) [.int .i64 y.f_Kind, .string y.f_Store, .int .i64 y.f_Key.kind, .int .i64 y.f_Key.n, .string y.f_Key.text, .slice y.f_Record.a y.f_Record.l.length y.f_Record.c, .string y.f_Field]) [Sv.ownV 133 7 (some ⟨g1, 0, none⟩) N N ((ys ++ [y]).flatMap cl_Op ++ Zs.drop 7), Bag.bag (rws_Op ys), L4.boxR g2 133 #[.int .i64 x.f_Kind, .string x.f_Store, .int .i64 x.f_Key.kind, .int .i64 x.f_Key.n, .string x.f_Key.text, .slice x.f_Record.a x.f_Record.l.length x.f_Record.c, .string x.f_Field], Bag.bag (rw_Op y)] from (by have h := Run.put_run S6.out 0 rfl (k * 7) [.int .i64 y.f_Kind, .string y.f_Store, .int .i64 y.f_Key.kind, .int .i64 y.f_Key.n, .string y.f_Key.text, .slice y.f_Record.a y.f_Record.l.length y.f_Record.c, .string y.f_Field] (by have := HL.out.2.1; simpa using this); rw [Run.over_at _ _ _ _ HL.out.1 (by have := HL.out.2.2; simpa using this)] at h; rw [List.flatMap_append, List.append_assoc]; exact h))
   clear S6
   have S8 := Lib.hid (show Sl.Sep w _ [Sv.ownV 133 7 (some ⟨g1, 0, none⟩) N N ((ys ++ [y]).flatMap cl_Op ++ Zs.drop 7), Bag.bag (rws_Op ys ++ (rw_Op y)), L4.boxR g2 133 #[.int .i64 x.f_Kind, .string x.f_Store, .int .i64 x.f_Key.kind, .int .i64 x.f_Key.n, .string x.f_Key.text, .slice x.f_Record.a x.f_Record.l.length x.f_Record.c, .string x.f_Field], Bag.bag ([])] from Bag.bag_join S7.out 1 3 (by decide) rfl rfl)
   clear S7
   have S9 := Lib.hid (show Sl.Sep w _ [_, _] from Bag.take S8.out [0, 1] (by rfl) (by decide))
   clear S8
   go_roundw
   case rel =>
    refine ⟨k + 1, ys ++ [y], Zs.drop 7, by omega, by go_num, And.intro ⟨?_, ?_, ?_⟩ ?_⟩
    ·
     rw [HTX.out, List.map_append, List.map_append, HC.out.1]; rw [show [y].map co_Op = [x].map co_Op from congrArg (fun u => [u]) HCY.out]
    ·
     rw [List.length_append, HC.out.2.1]; rfl
    ·
     rw [List.length_drop, HC.out.2.2]; omega
    ·
     rw [rws_Op_app]; rw [show rws_Op [y] = rw_Op y from by rw [rws_Op_eq]; simp]; exact S9.out
   case measure => simp [intOf]; omega
  ·
   skip
   obtain rfl : k = N := by omega
   go_wp2_with fail
   go_ret
   obtain ⟨hc1, hc2, hc3⟩ := HC.out
   have hZs : Zs = [] := List.eq_nil_of_length_eq_zero (by rw [hc3]; omega)
   have hcon : ys.map co_Op = xs.map co_Op := by rw [hc1, List.take_of_length_le (by have := HN.out; omega)]
   have S90 := Lib.hid (Bag.bag_of_one S4.out 0 (r := row_Op (some ⟨g1, 0, none⟩) k ys) (by unfold RowS.res row_Op; dsimp only; rw [hZs, List.append_nil, hc2]; rfl))
   have S91 := Lib.hid (Bag.bag_join S90.out 0 1 (by decide) rfl rfl)
   have hb := Bag.bag_from S91.out 0 rfl
   subst hc2
   exact ⟨_, ys, rfl, by rw [coS_Op_eq, coS_Op_eq]; exact hcon, hb, S91.out.old⟩
end Go.Proofs.YthljdhfgphebnaaGreat.V

namespace Go.Proofs.YthljdhfgphebnaaGreat.V
open Go.ChangeShapes Go.WideShapes Go.ChangeAt Go.RowKit Mem Sl Sv Bag

theorem infoE_Store : ∃ i, Tryz.prog.info? 70 = some i ∧ i.zero = some (.agg #[.string ⟨#[]⟩, .slice none 0 0, .int .i64 0]) ∧ i.size = 3 ∧ i.bytes = 48 := Ex.infoOf _ _ _ _ (by kernel_rfl)
def Copied_Store (w : World) (x : L6.LS) (e : Ending) (w' : World) : Prop := ∃ y : L6.LS, e = .returned (vv_Store y) ∧ co_Store y = co_Store x ∧ BagOwn w' w.heap.size (rw_Store y) ∧ Below w.heap.size w w'
def CopiedS_Store (w : World) (xs : List L6.LS) (e : Ending) (w' : World) : Prop := ∃ (g : Nat) (ys : List L6.LS), e = .returned (.slice (some ⟨g, 0, none⟩) ys.length ys.length) ∧ coS_Store ys = coS_Store xs ∧ BagOwn w' w.heap.size (rs_Store (some ⟨g, 0, none⟩) ys.length ys) ∧ Below w.heap.size w w'
set_option maxHeartbeats 4000000 in
theorem copyEach_Store (hco : ∀ (x : L6.LS) (hf : L6.FitS (co_Store x)) (w : World) (hr : RowsRd w w.heap.size (rw_Store x)), Calls Tryz.prog 72 #[vv_Store x] w (Copied_Store w x))
  (a : Option Addr) (c : Nat) (xs : List L6.LS) (hl : xs.length ≤ 1048576) (hf : ∀ x ∈ xs, L6.FitS (co_Store x)) (w : World) (hr : Reads w w.heap.size a (xs.flatMap cl_Store)) (hx : RowsRd w w.heap.size (rws_Store xs)) :
  Calls Tryz.prog 71 #[.slice a xs.length c, .func (.func 72) #[] #[]] w (CopiedS_Store w xs) := by
 obtain ⟨i0, hi1, hi2, hi3, hi4⟩ := infoE_Store
 have HI := Lib.hid (And.intro hi1 (And.intro hi2 (And.intro hi3 hi4)))
 clear hi1 hi2 hi3 hi4
 have HR := Lib.hid (fun w' (h : Below w.heap.size w w') => hr.below h)
 have HX := Lib.hid (fun w' (h : Below w.heap.size w w') => (hx.below h).more h.size)
 have HF := Lib.hid hf
 have HCO := Lib.hid hco
 obtain ⟨N, hN⟩ : ∃ n, n = xs.length := ⟨_, rfl⟩
 rw [← hN] at hl ⊢
 have hl' : (N : Int) ≤ 1048576 := by omega
 have HN := Lib.hid hN
 clear hN hr hx hf hco
 obtain ⟨Z, hZ⟩ : ∃ Z, Z = (madeCells (Value.agg #[.string ⟨#[]⟩, .slice none 0 0, .int .i64 0]).cells (N * 3)).toList := ⟨_, rfl⟩
 have HZ := Lib.hid (show Z.length = N * 3 by rw [hZ]; simp [madeCells])
 have HZD := Lib.hid hZ
 clear hZ
 have S1 := Lib.hid (show Sl.Sep w w [] from Sl.Sep.start w)
 go_enter Tryz.func71, Tryz.ntmps71
 go_upto_region 2 with (at_make; refine Run.wpList_make_s S1.out rfl _ _ 30 rfl 70 i0 (.agg #[.string ⟨#[]⟩, .slice none 0 0, .int .i64 0]) 3 Tryz.underlying30 HI.out.1 HI.out.2.1 HI.out.2.2.1 _ _ N rfl rfl (by rw [HI.out.2.2.2]; omega) (by unfold maxLen; omega) ?_; intro w1 S')
 obtain ⟨g1, hg⟩ : ∃ g', g' = w.heap.size := ⟨_, rfl⟩
 rw [← hg] at S' ⊢
 clear hg
 have S2 := Lib.hid (show Sl.Sep w _ [Sv.ownV 70 3 (some ⟨g1, 0, none⟩) N N (([] : List L6.LS).flatMap cl_Store ++ Z)] from (by have h := S'; rw [← HZD.out] at h; exact h))
 clear S1
 clear S'
 have S3 := Lib.hid (show Sl.Sep w _ [_, Bag.bag (rws_Store [])] from Bag.push_bag S2.out (Below.refl _ _) (by rw [rws_Store_eq]; exact Bag.BagOwn.nil _ _))
 clear S2
 go_wp2_with fail
 go_loopw [13] (fun i wr => ∃ (k : Nat) (ys : List L6.LS) (Zs : List Value), k ≤ N ∧ i = .int .i64 k ∧ Hid ((ys.map co_Store = (xs.take k).map co_Store ∧ ys.length = k ∧ Zs.length = (N - k) * 3) ∧ Sl.Sep w wr [Sv.ownV 70 3 (some ⟨g1, 0, none⟩) N N (ys.flatMap cl_Store ++ Zs), Bag.bag (rws_Store ys)])) (fun i _ => N - (intOf i).toNat)
 case atStart => exact ⟨0, [], Z, Nat.zero_le _, rfl, And.intro ⟨rfl, rfl, HZ.out⟩ S3.out⟩
 case round =>
  obtain ⟨k, ys, Zs, hk, rfl, hrel⟩ := hrel
  have HC := Lib.hid hrel.out.1
  have S4 := Lib.hid hrel.out.2
  clear hrel S3
  by_cases hlt : (k : Int) < (N : Int)
  ·
   skip
   have hkl : k < xs.length := by have := HN.out; omega
   obtain ⟨x, hx⟩ : ∃ x, xs[k]? = some x := ⟨_, List.getElem?_eq_getElem hkl⟩
   obtain ⟨ad, e'⟩ := el_some cl_Store_len (by decide) (HR.out _ S4.out.old) hkl
   subst e'
   have HK := Lib.hid (fun w' (h : Below w.heap.size w w') => el3 cl_Store_len (HR.out _ h) hx rfl)
   have HTX := Lib.hid (take_next hx)
   have HL := Lib.hid (show (ys.flatMap cl_Store).length = k * 3 ∧ k * 3 + 3 ≤ (ys.flatMap cl_Store ++ Zs).length ∧ 3 ≤ Zs.length from by have h1 := HC.out.2.1; have h2 := HC.out.2.2; rw [List.length_append, flat_len cl_Store_len, h1, h2]; omega)
   have HCI := Lib.hid (fun w' (h : Below w.heap.size w w') => HCO.out x (HF.out x (List.mem_of_getElem? hx)) w' (rd_el (rw_ := rw_Store) (by rw [← rws_Store_eq]; exact HX.out w' h) hx))
   dsimp only [vv_Store] at HCI
   clear hx
   obtain ⟨f0, f1, f2⟩ := HK.out _ S4.out.old
   go_upto_region 5 with fail
   clear f0 f1 f2
   have S5 := Lib.hid (show Sl.Sep w _ [_, _, _] from L4.push_box S4.out 70 #[.string x.name, .slice x.a x.xs.length x.c, .int .i64 x.auto] wr.heap.size rfl)
   clear S4
   obtain ⟨g2, hg⟩ : ∃ g', g' = wr.heap.size := ⟨_, rfl⟩
   rw [← hg] at S5 ⊢
   clear hg
   generalize wr.alloc (.cells #[.string x.name, .slice x.a x.xs.length x.c, .int .i64 x.auto] 70) = w2 at S5 ⊢
   obtain ⟨f0, f1, f2⟩ := Bag.cs3 S5.out 2 rfl
   obtain ⟨f3, f4, f5⟩ := HK.out _ S5.out.old
   go_wp2_with fail
   go_at_call 72
   refine (HCI.out _ S5.out.old).mono ?_
   rintro e w3 ⟨y, rfl, hcy, ho, hb⟩
   clear f0 f1 f2 f3 f4 f5
   have S6 := Lib.hid (show Sl.Sep w _ [_, _, L4.boxR g2 70 #[.string x.name, .slice x.a x.xs.length x.c, .int .i64 x.auto], Bag.bag (rw_Store y)] from Bag.push_bag S5.out hb ho)
   clear S5
   clear hb ho
   have HCY := Lib.hid hcy
   clear hcy
   try dsimp only [vv_Store]
   have q0 := (Sv.own_at S6.out 0 rfl).cell (k * 3) (by have := HL.out.2.1; omega)
   have z0 := (Sv.own_at S6.out 0 rfl).free (k * 3)
   have q1 := (Sv.own_at S6.out 0 rfl).cell (k * 3 + 1) (by have := HL.out.2.1; omega)
   have z1 := (Sv.own_at S6.out 0 rfl).free (k * 3 + 1)
   have q2 := (Sv.own_at S6.out 0 rfl).cell (k * 3 + 2) (by have := HL.out.2.1; omega)
   have z2 := (Sv.own_at S6.out 0 rfl).free (k * 3 + 2)
   go_wp2_with fail
   clear q0 z0 q1 z1 q2 z2
   have S7 := Lib.hid (show Sl.Sep w (World.setCells w3 g1 (k * 3) [.string y.name, .slice y.a y.xs.length y.c, .int .i64 y.auto]) [Sv.ownV 70 3 (some ⟨g1, 0, none⟩) N N ((ys ++ [y]).flatMap cl_Store ++ Zs.drop 3), Bag.bag (rws_Store ys), L4.boxR g2 70 #[.string x.name, .slice x.a x.xs.length x.c, .int .i64 x.auto], Bag.bag (rw_Store y)] from (by have h := Run.put_run S6.out 0 rfl (k * 3) [.string y.name, .slice y.a y.xs.length y.c, .int .i64 y.auto] (by have := HL.out.2.1; simpa using this); rw [Run.over_at _ _ _ _ HL.out.1 (by have := HL.out.2.2; simpa using this)] at h; rw [List.flatMap_append, List.append_assoc]; exact h))
   clear S6
   have S8 := Lib.hid (show Sl.Sep w _ [Sv.ownV 70 3 (some ⟨g1, 0, none⟩) N N ((ys ++ [y]).flatMap cl_Store ++ Zs.drop 3), Bag.bag (rws_Store ys ++ (rw_Store y)), L4.boxR g2 70 #[.string x.name, .slice x.a x.xs.length x.c, .int .i64 x.auto], Bag.bag ([])] from Bag.bag_join S7.out 1 3 (by decide) rfl rfl)
   clear S7
   have S9 := Lib.hid (show Sl.Sep w _ [_, _] from Bag.take S8.out [0, 1] (by rfl) (by decide))
   clear S8
   go_roundw
   case rel =>
    refine ⟨k + 1, ys ++ [y], Zs.drop 3, by omega, by go_num, And.intro ⟨?_, ?_, ?_⟩ ?_⟩
    ·
     rw [HTX.out, List.map_append, List.map_append, HC.out.1]; rw [show [y].map co_Store = [x].map co_Store from congrArg (fun u => [u]) HCY.out]
    ·
     rw [List.length_append, HC.out.2.1]; rfl
    ·
     rw [List.length_drop, HC.out.2.2]; omega
    ·
     rw [rws_Store_app]; rw [show rws_Store [y] = rw_Store y from by rw [rws_Store_eq]; simp]; exact S9.out
   case measure => simp [intOf]; omega
  ·
   skip
   obtain rfl : k = N := by omega
   go_wp2_with fail
   go_ret
   obtain ⟨hc1, hc2, hc3⟩ := HC.out
   have hZs : Zs = [] := List.eq_nil_of_length_eq_zero (by rw [hc3]; omega)
   have hcon : ys.map co_Store = xs.map co_Store := by rw [hc1, List.take_of_length_le (by have := HN.out; omega)]
   have S90 := Lib.hid (Bag.bag_of_one S4.out 0 (r := row_Store (some ⟨g1, 0, none⟩) k ys) (by unfold RowS.res row_Store; dsimp only; rw [hZs, List.append_nil, hc2]; rfl))
   have S91 := Lib.hid (Bag.bag_join S90.out 0 1 (by decide) rfl rfl)
   have hb := Bag.bag_from S91.out 0 rfl
   subst hc2
   exact ⟨_, ys, rfl, by rw [coS_Store_eq, coS_Store_eq]; exact hcon, hb, S91.out.old⟩
end Go.Proofs.YthljdhfgphebnaaGreat.V

namespace Go.Proofs.YthljdhfgphebnaaGreat.V
open Go.ChangeShapes Go.WideShapes Go.ChangeAt Go.RowKit Mem Sl Sv Bag

theorem infoE_Tx : ∃ i, Tryz.prog.info? 89 = some i ∧ i.zero = some (.agg #[.int .i64 0, .slice none 0 0, .int .i64 0, .int .i64 0, .slice none 0 0]) ∧ i.size = 5 ∧ i.bytes = 72 := Ex.infoOf _ _ _ _ (by kernel_rfl)
def Copied_Tx (w : World) (x : Y_Tx) (e : Ending) (w' : World) : Prop := ∃ y : Y_Tx, e = .returned (vv_Tx y) ∧ co_Tx y = co_Tx x ∧ BagOwn w' w.heap.size (rw_Tx y) ∧ Below w.heap.size w w'
def CopiedS_Tx (w : World) (xs : List Y_Tx) (e : Ending) (w' : World) : Prop := ∃ (g : Nat) (ys : List Y_Tx), e = .returned (.slice (some ⟨g, 0, none⟩) ys.length ys.length) ∧ coS_Tx ys = coS_Tx xs ∧ BagOwn w' w.heap.size (rs_Tx (some ⟨g, 0, none⟩) ys.length ys) ∧ Below w.heap.size w w'
set_option maxHeartbeats 4000000 in
theorem copyEach_Tx (hco : ∀ (x : Y_Tx) (hf : L10.FitT (co_Tx x)) (w : World) (hr : RowsRd w w.heap.size (rw_Tx x)), Calls Tryz.prog 124 #[vv_Tx x] w (Copied_Tx w x))
  (a : Option Addr) (c : Nat) (xs : List Y_Tx) (hl : xs.length ≤ 1048576) (hf : ∀ x ∈ xs, L10.FitT (co_Tx x)) (w : World) (hr : Reads w w.heap.size a (xs.flatMap cl_Tx)) (hx : RowsRd w w.heap.size (rws_Tx xs)) :
  Calls Tryz.prog 123 #[.slice a xs.length c, .func (.func 124) #[] #[]] w (CopiedS_Tx w xs) := by
 obtain ⟨i0, hi1, hi2, hi3, hi4⟩ := infoE_Tx
 have HI := Lib.hid (And.intro hi1 (And.intro hi2 (And.intro hi3 hi4)))
 clear hi1 hi2 hi3 hi4
 have HR := Lib.hid (fun w' (h : Below w.heap.size w w') => hr.below h)
 have HX := Lib.hid (fun w' (h : Below w.heap.size w w') => (hx.below h).more h.size)
 have HF := Lib.hid hf
 have HCO := Lib.hid hco
 obtain ⟨N, hN⟩ : ∃ n, n = xs.length := ⟨_, rfl⟩
 rw [← hN] at hl ⊢
 have hl' : (N : Int) ≤ 1048576 := by omega
 have HN := Lib.hid hN
 clear hN hr hx hf hco
 obtain ⟨Z, hZ⟩ : ∃ Z, Z = (madeCells (Value.agg #[.int .i64 0, .slice none 0 0, .int .i64 0, .int .i64 0, .slice none 0 0]).cells (N * 5)).toList := ⟨_, rfl⟩
 have HZ := Lib.hid (show Z.length = N * 5 by rw [hZ]; simp [madeCells])
 have HZD := Lib.hid hZ
 clear hZ
 have S1 := Lib.hid (show Sl.Sep w w [] from Sl.Sep.start w)
 go_enter Tryz.func123, Tryz.ntmps123
 go_upto_region 2 with (at_make; refine Run.wpList_make_s S1.out rfl _ _ 54 rfl 89 i0 (.agg #[.int .i64 0, .slice none 0 0, .int .i64 0, .int .i64 0, .slice none 0 0]) 5 Tryz.underlying54 HI.out.1 HI.out.2.1 HI.out.2.2.1 _ _ N rfl rfl (by rw [HI.out.2.2.2]; omega) (by unfold maxLen; omega) ?_; intro w1 S')
 obtain ⟨g1, hg⟩ : ∃ g', g' = w.heap.size := ⟨_, rfl⟩
 rw [← hg] at S' ⊢
 clear hg
 have S2 := Lib.hid (show Sl.Sep w _ [Sv.ownV 89 5 (some ⟨g1, 0, none⟩) N N (([] : List Y_Tx).flatMap cl_Tx ++ Z)] from (by have h := S'; rw [← HZD.out] at h; exact h))
 clear S1
 clear S'
 have S3 := Lib.hid (show Sl.Sep w _ [_, Bag.bag (rws_Tx [])] from Bag.push_bag S2.out (Below.refl _ _) (by rw [rws_Tx_eq]; exact Bag.BagOwn.nil _ _))
 clear S2
 go_wp2_with fail
 go_loopw [13] (fun i wr => ∃ (k : Nat) (ys : List Y_Tx) (Zs : List Value), k ≤ N ∧ i = .int .i64 k ∧ Hid ((ys.map co_Tx = (xs.take k).map co_Tx ∧ ys.length = k ∧ Zs.length = (N - k) * 5) ∧ Sl.Sep w wr [Sv.ownV 89 5 (some ⟨g1, 0, none⟩) N N (ys.flatMap cl_Tx ++ Zs), Bag.bag (rws_Tx ys)])) (fun i _ => N - (intOf i).toNat)
 case atStart => exact ⟨0, [], Z, Nat.zero_le _, rfl, And.intro ⟨rfl, rfl, HZ.out⟩ S3.out⟩
 case round =>
  obtain ⟨k, ys, Zs, hk, rfl, hrel⟩ := hrel
  have HC := Lib.hid hrel.out.1
  have S4 := Lib.hid hrel.out.2
  clear hrel S3
  by_cases hlt : (k : Int) < (N : Int)
  ·
   skip
   have hkl : k < xs.length := by have := HN.out; omega
   obtain ⟨x, hx⟩ : ∃ x, xs[k]? = some x := ⟨_, List.getElem?_eq_getElem hkl⟩
   obtain ⟨ad, e'⟩ := el_some cl_Tx_len (by decide) (HR.out _ S4.out.old) hkl
   subst e'
   have HK := Lib.hid (fun w' (h : Below w.heap.size w w') => el5 cl_Tx_len (HR.out _ h) hx rfl)
   have HTX := Lib.hid (take_next hx)
   have HL := Lib.hid (show (ys.flatMap cl_Tx).length = k * 5 ∧ k * 5 + 5 ≤ (ys.flatMap cl_Tx ++ Zs).length ∧ 5 ≤ Zs.length from by have h1 := HC.out.2.1; have h2 := HC.out.2.2; rw [List.length_append, flat_len cl_Tx_len, h1, h2]; omega)
   have HCI := Lib.hid (fun w' (h : Below w.heap.size w w') => HCO.out x (HF.out x (List.mem_of_getElem? hx)) w' (rd_el (rw_ := rw_Tx) (by rw [← rws_Tx_eq]; exact HX.out w' h) hx))
   dsimp only [vv_Tx] at HCI
   clear hx
   obtain ⟨f0, f1, f2, f3, f4⟩ := HK.out _ S4.out.old
   go_upto_region 5 with fail
   clear f0 f1 f2 f3 f4
   have S5 := Lib.hid (show Sl.Sep w _ [_, _, _] from L4.push_box S4.out 89 #[.int .i64 x.f_Id, .slice x.f_Ops_a x.f_Ops.length x.f_Ops_c, .int .i64 x.f_At, .int .i64 x.f_State, .slice x.f_Backup_a x.f_Backup.length x.f_Backup_c] wr.heap.size rfl)
   clear S4
   obtain ⟨g2, hg⟩ : ∃ g', g' = wr.heap.size := ⟨_, rfl⟩
   rw [← hg] at S5 ⊢
   clear hg
   generalize wr.alloc (.cells #[.int .i64 x.f_Id, .slice x.f_Ops_a x.f_Ops.length x.f_Ops_c, .int .i64 x.f_At, .int .i64 x.f_State, .slice x.f_Backup_a x.f_Backup.length x.f_Backup_c] 89) = w2 at S5 ⊢
   obtain ⟨f0, f1, f2, f3, f4⟩ := Bag.cs5 S5.out 2 rfl
   obtain ⟨f5, f6, f7, f8, f9⟩ := HK.out _ S5.out.old
   go_wp2_with fail
   go_at_call 124
   refine (HCI.out _ S5.out.old).mono ?_
   rintro e w3 ⟨y, rfl, hcy, ho, hb⟩
   clear f0 f1 f2 f3 f4 f5 f6 f7 f8 f9
   have S6 := Lib.hid (show Sl.Sep w _ [_, _, L4.boxR g2 89 #[.int .i64 x.f_Id, .slice x.f_Ops_a x.f_Ops.length x.f_Ops_c, .int .i64 x.f_At, .int .i64 x.f_State, .slice x.f_Backup_a x.f_Backup.length x.f_Backup_c], Bag.bag (rw_Tx y)] from Bag.push_bag S5.out hb ho)
   clear S5
   clear hb ho
   have HCY := Lib.hid hcy
   clear hcy
   try dsimp only [vv_Tx]
   have q0 := (Sv.own_at S6.out 0 rfl).cell (k * 5) (by have := HL.out.2.1; omega)
   have z0 := (Sv.own_at S6.out 0 rfl).free (k * 5)
   have q1 := (Sv.own_at S6.out 0 rfl).cell (k * 5 + 1) (by have := HL.out.2.1; omega)
   have z1 := (Sv.own_at S6.out 0 rfl).free (k * 5 + 1)
   have q2 := (Sv.own_at S6.out 0 rfl).cell (k * 5 + 2) (by have := HL.out.2.1; omega)
   have z2 := (Sv.own_at S6.out 0 rfl).free (k * 5 + 2)
   have q3 := (Sv.own_at S6.out 0 rfl).cell (k * 5 + 3) (by have := HL.out.2.1; omega)
   have z3 := (Sv.own_at S6.out 0 rfl).free (k * 5 + 3)
   have q4 := (Sv.own_at S6.out 0 rfl).cell (k * 5 + 4) (by have := HL.out.2.1; omega)
   have z4 := (Sv.own_at S6.out 0 rfl).free (k * 5 + 4)
   go_wp2_with fail
   clear q0 z0 q1 z1 q2 z2 q3 z3 q4 z4
   have S7 := Lib.hid (show Sl.Sep w (World.setCells w3 g1 (k * 5) [.int .i64 y.f_Id, .slice y.f_Ops_a y.f_Ops.length y.f_Ops_c, .int .i64 y.f_At, .int .i64 y.f_State, .slice y.f_Backup_a y.f_Backup.length y.f_Backup_c]) [Sv.ownV 89 5 (some ⟨g1, 0, none⟩) N N ((ys ++ [y]).flatMap cl_Tx ++ Zs.drop 5), Bag.bag (rws_Tx ys), L4.boxR g2 89 #[.int .i64 x.f_Id, .slice x.f_Ops_a x.f_Ops.length x.f_Ops_c, .int .i64 x.f_At, .int .i64 x.f_State, .slice x.f_Backup_a x.f_Backup.length x.f_Backup_c], Bag.bag (rw_Tx y)] from (by have h := Run.put_run S6.out 0 rfl (k * 5) [.int .i64 y.f_Id, .slice y.f_Ops_a y.f_Ops.length y.f_Ops_c, .int .i64 y.f_At, .int .i64 y.f_State, .slice y.f_Backup_a y.f_Backup.length y.f_Backup_c] (by have := HL.out.2.1; simpa using this); rw [Run.over_at _ _ _ _ HL.out.1 (by have := HL.out.2.2; simpa using this)] at h; rw [List.flatMap_append, List.append_assoc]; exact h))
   clear S6
   have S8 := Lib.hid (show Sl.Sep w _ [Sv.ownV 89 5 (some ⟨g1, 0, none⟩) N N ((ys ++ [y]).flatMap cl_Tx ++ Zs.drop 5), Bag.bag (rws_Tx ys ++ (rw_Tx y)), L4.boxR g2 89 #[.int .i64 x.f_Id, .slice x.f_Ops_a x.f_Ops.length x.f_Ops_c, .int .i64 x.f_At, .int .i64 x.f_State, .slice x.f_Backup_a x.f_Backup.length x.f_Backup_c], Bag.bag ([])] from Bag.bag_join S7.out 1 3 (by decide) rfl rfl)
   clear S7
   have S9 := Lib.hid (show Sl.Sep w _ [_, _] from Bag.take S8.out [0, 1] (by rfl) (by decide))
   clear S8
   go_roundw
   case rel =>
    refine ⟨k + 1, ys ++ [y], Zs.drop 5, by omega, by go_num, And.intro ⟨?_, ?_, ?_⟩ ?_⟩
    ·
     rw [HTX.out, List.map_append, List.map_append, HC.out.1]; rw [show [y].map co_Tx = [x].map co_Tx from congrArg (fun u => [u]) HCY.out]
    ·
     rw [List.length_append, HC.out.2.1]; rfl
    ·
     rw [List.length_drop, HC.out.2.2]; omega
    ·
     rw [rws_Tx_app]; rw [show rws_Tx [y] = rw_Tx y from by rw [rws_Tx_eq]; simp]; exact S9.out
   case measure => simp [intOf]; omega
  ·
   skip
   obtain rfl : k = N := by omega
   go_wp2_with fail
   go_ret
   obtain ⟨hc1, hc2, hc3⟩ := HC.out
   have hZs : Zs = [] := List.eq_nil_of_length_eq_zero (by rw [hc3]; omega)
   have hcon : ys.map co_Tx = xs.map co_Tx := by rw [hc1, List.take_of_length_le (by have := HN.out; omega)]
   have S90 := Lib.hid (Bag.bag_of_one S4.out 0 (r := row_Tx (some ⟨g1, 0, none⟩) k ys) (by unfold RowS.res row_Tx; dsimp only; rw [hZs, List.append_nil, hc2]; rfl))
   have S91 := Lib.hid (Bag.bag_join S90.out 0 1 (by decide) rfl rfl)
   have hb := Bag.bag_from S91.out 0 rfl
   subst hc2
   exact ⟨_, ys, rfl, by rw [coS_Tx_eq, coS_Tx_eq]; exact hcon, hb, S91.out.old⟩
end Go.Proofs.YthljdhfgphebnaaGreat.V

namespace Go.Proofs.YthljdhfgphebnaaGreat.L5
open L4 (boxR push_box box_at)
open Go.ChangeShapes Go.WideShapes Go.ChangeAt Go.RowKit Mem Sl Ex L2 Sv Bag Run

set_option maxHeartbeats 1000000 in
theorem copyRecord_any (a : Option Addr) (c : Nat) (l : List F) (hl : l.length ≤ 1099511627776) (w : World) (hr : Reads w w.heap.size a (cellsF l)) :
  Calls Tryz.prog 141 #[.agg #[.slice a l.length c]] w fun e w' => ∃ a' c', e = .returned (.agg #[.slice a' l.length c']) ∧ OwnV w' w.heap.size 184 2 a' c' l.length (cellsF l) ∧ Below w.heap.size w w' := by
 obtain ⟨i0, hi, hz0, hz1, hz2⟩ := fieldInfo
 obtain ⟨n, hn⟩ : ∃ n, n = l.length := ⟨_, rfl⟩
 rw [← hn] at hl ⊢
 have HR := Lib.hid (fun w' (h : Below w.heap.size w w') => hr.below h)
 have HC := Lib.hid (show (cellsF l).length = Nat.min n n * 2 by rw [cellsF_length, hn, show Nat.min l.length l.length = l.length from Nat.min_self _])
 have HM := Lib.hid (show (madeCells (Value.agg #[.string ⟨#[]⟩, .int .i64 0]).cells (n * 2)).toList.length = (cellsF l).length by rw [cellsF_length, ← hn]; simp [madeCells])
 have HI := Lib.hid (And.intro hi (And.intro hz0 (And.intro hz1 hz2)))
 have hl' : (n : Int) ≤ 1099511627776 := by omega
 clear hn hr hi hz0 hz1 hz2
 have S1 := Lib.hid (show Sl.Sep w _ [_, _] from L4.push_box (L4.push_box (Sl.Sep.start w) 131 #[.slice a n c] (w.heap.size) (by simp)) 131 #[.slice none 0 0] (w.heap.size + 1) (by simp))
 obtain ⟨wa, hwa⟩ : ∃ u, u = ((w.alloc (.cells #[.slice a n c] 131)).alloc (.cells #[.slice none 0 0] 131)) := ⟨_, rfl⟩
 rw [← hwa] at S1
 go_enter Tryz.func141, Tryz.ntmps141
 go_upto_region 1 with fail
 rw [← hwa]
 clear hwa
 have f0 : World.cell? _ ⟨w.heap.size, 0, none⟩ = some (.slice a n c) := Bag.cell_at S1.out 0 rfl 0 rfl
 have f1 : World.cell? _ ⟨w.heap.size + 1, 0, none⟩ = some (.slice none 0 0) := Bag.cell_at S1.out 1 rfl 0 rfl
 go_upto_region 2 with (at_make; refine wpList_make_s S1.out rfl _ _ 129 rfl 184 i0 (.agg #[.string ⟨#[]⟩, .int .i64 0]) 2 Tryz.underlying129 HI.out.1 HI.out.2.1 HI.out.2.2.1 _ _ n rfl rfl (by rw [HI.out.2.2.2]; omega) (by unfold maxLen; omega) ?_; intro w1 S')
 clear f0 f1
 obtain ⟨g1, hg⟩ : ∃ g', g' = wa.heap.size := ⟨_, rfl⟩
 rw [← hg] at S' ⊢
 clear hg
 have S2 := Lib.hid (show Sl.Sep w _ [L4.boxR w.heap.size 131 #[.slice a n c], L4.boxR (w.heap.size + 1) 131 #[.slice none 0 0], Sv.ownV 184 2 (some ⟨g1, 0, none⟩) n n ((madeCells (Value.agg #[.string ⟨#[]⟩, .int .i64 0]).cells (n * 2)).toList)] from S')
 clear S1
 clear S'
 have f0 : World.cell? _ ⟨w.heap.size, 0, none⟩ = some (.slice a n c) := Bag.cell_at S2.out 0 rfl 0 rfl
 have f1 : World.cell? _ ⟨w.heap.size + 1, 0, none⟩ = some (.slice none 0 0) := Bag.cell_at S2.out 1 rfl 0 rfl
 have hcp := fun ty => run_copy_s (P := Tryz.prog) S2.out 2 rfl 129 129 ty i0 Tryz.underlying129 HI.out.1 HI.out.2.2.1 0 n n n c a (cellsF l) HC.out w.heap.size (HR.out _ S2.out.old) (by rw [HM.out]; omega) (cellsF_one l)
 obtain ⟨w2, hw⟩ : ∃ u, u = World.setCells w1 g1 0 (cellsF l) := ⟨_, rfl⟩
 rw [← hw] at hcp
 have HW := Lib.hid hw
 clear hw
 go_upto_region 3 with fail
 clear f0 f1
 have S3 := Lib.hid (show Sl.Sep w _ [_, _, Sv.ownV 184 2 (some ⟨g1, 0, none⟩) n n (cellsF l)] from (by have h := Run.put_run S2.out 2 rfl 0 (cellsF l) (by rw [HM.out]; omega); rw [← HW.out, over_all _ _ HM.out] at h; exact h))
 clear S2
 clear hcp HW
 have f0 : World.cell? _ ⟨w.heap.size, 0, none⟩ = some (.slice a n c) := Bag.cell_at S3.out 0 rfl 0 rfl
 have f1 : World.cell? _ ⟨w.heap.size + 1, 0, none⟩ = some (.slice none 0 0) := Bag.cell_at S3.out 1 rfl 0 rfl
 have z0 := Bag.free_at S3.out 1 rfl 0
 go_wp2_with fail
 clear f0 f1 z0
 have S4 := Lib.hid (show Sl.Sep w _ [_, L4.boxR (w.heap.size + 1) 131 #[.slice (some ⟨g1, 0, none⟩) n n], _] from L5.put_box5 (S3.out) 1 rfl 0 (.slice (some ⟨g1, 0, none⟩) n n))
 clear S3
 have f0 : World.cell? _ ⟨w.heap.size + 1, 0, none⟩ = some (.slice (some ⟨g1, 0, none⟩) n n) := Bag.cell_at S4.out 1 rfl 0 rfl
 refine bodyPost_ret (v := .agg #[.slice (some ⟨g1, 0, none⟩) n n]) (by simp [results, Tryz.results141, go_sem, *]) rfl ?_
 exact ⟨_, _, rfl, Sv.own_from S4.out 2 rfl, S4.out.old⟩
end Go.Proofs.YthljdhfgphebnaaGreat.L5

namespace Go.Proofs.YthljdhfgphebnaaGreat.V
open Go.ChangeShapes Go.WideShapes Go.ChangeAt Go.RowKit Mem Sl Sv Bag

theorem infoE_Item : ∃ i, Tryz.prog.info? 135 = some i ∧ i.zero = some (.agg #[.int .i64 0, .int .i64 0, .string ⟨#[]⟩, .slice none 0 0]) ∧ i.size = 4 ∧ i.bytes = 56 := Ex.infoOf _ _ _ _ (by kernel_rfl)
def Copied_Item (w : World) (x : L6.LI) (e : Ending) (w' : World) : Prop := ∃ y : L6.LI, e = .returned (vv_Item y) ∧ co_Item y = co_Item x ∧ BagOwn w' w.heap.size (rw_Item y) ∧ Below w.heap.size w w'
def CopiedS_Item (w : World) (xs : List L6.LI) (e : Ending) (w' : World) : Prop := ∃ (g : Nat) (ys : List L6.LI), e = .returned (.slice (some ⟨g, 0, none⟩) ys.length ys.length) ∧ coS_Item ys = coS_Item xs ∧ BagOwn w' w.heap.size (rs_Item (some ⟨g, 0, none⟩) ys.length ys) ∧ Below w.heap.size w w'
set_option maxHeartbeats 4000000 in
theorem copyEach_Item (hco : ∀ (x : L6.LI) (hf : L6.FitI (co_Item x)) (w : World) (hr : RowsRd w w.heap.size (rw_Item x)), Calls Tryz.prog 105 #[vv_Item x] w (Copied_Item w x))
  (a : Option Addr) (c : Nat) (xs : List L6.LI) (hl : xs.length ≤ 1048576) (hf : ∀ x ∈ xs, L6.FitI (co_Item x)) (w : World) (hr : Reads w w.heap.size a (xs.flatMap cl_Item)) (hx : RowsRd w w.heap.size (rws_Item xs)) :
  Calls Tryz.prog 104 #[.slice a xs.length c, .func (.func 105) #[] #[]] w (CopiedS_Item w xs) := by
 obtain ⟨i0, hi1, hi2, hi3, hi4⟩ := infoE_Item
 have HI := Lib.hid (And.intro hi1 (And.intro hi2 (And.intro hi3 hi4)))
 clear hi1 hi2 hi3 hi4
 have HR := Lib.hid (fun w' (h : Below w.heap.size w w') => hr.below h)
 have HX := Lib.hid (fun w' (h : Below w.heap.size w w') => (hx.below h).more h.size)
 have HF := Lib.hid hf
 have HCO := Lib.hid hco
 obtain ⟨N, hN⟩ : ∃ n, n = xs.length := ⟨_, rfl⟩
 rw [← hN] at hl ⊢
 have hl' : (N : Int) ≤ 1048576 := by omega
 have HN := Lib.hid hN
 clear hN hr hx hf hco
 obtain ⟨Z, hZ⟩ : ∃ Z, Z = (madeCells (Value.agg #[.int .i64 0, .int .i64 0, .string ⟨#[]⟩, .slice none 0 0]).cells (N * 4)).toList := ⟨_, rfl⟩
 have HZ := Lib.hid (show Z.length = N * 4 by rw [hZ]; simp [madeCells])
 have HZD := Lib.hid hZ
 clear hZ
 have S1 := Lib.hid (show Sl.Sep w w [] from Sl.Sep.start w)
 go_enter Tryz.func104, Tryz.ntmps104
 go_upto_region 2 with (at_make; refine Run.wpList_make_s S1.out rfl _ _ 68 rfl 135 i0 (.agg #[.int .i64 0, .int .i64 0, .string ⟨#[]⟩, .slice none 0 0]) 4 Tryz.underlying68 HI.out.1 HI.out.2.1 HI.out.2.2.1 _ _ N rfl rfl (by rw [HI.out.2.2.2]; omega) (by unfold maxLen; omega) ?_; intro w1 S')
 obtain ⟨g1, hg⟩ : ∃ g', g' = w.heap.size := ⟨_, rfl⟩
 rw [← hg] at S' ⊢
 clear hg
 have S2 := Lib.hid (show Sl.Sep w _ [Sv.ownV 135 4 (some ⟨g1, 0, none⟩) N N (([] : List L6.LI).flatMap cl_Item ++ Z)] from (by have h := S'; rw [← HZD.out] at h; exact h))
 clear S1
 clear S'
 have S3 := Lib.hid (show Sl.Sep w _ [_, Bag.bag (rws_Item [])] from Bag.push_bag S2.out (Below.refl _ _) (by rw [rws_Item_eq]; exact Bag.BagOwn.nil _ _))
 clear S2
 go_wp2_with fail
 go_loopw [13] (fun i wr => ∃ (k : Nat) (ys : List L6.LI) (Zs : List Value), k ≤ N ∧ i = .int .i64 k ∧ Hid ((ys.map co_Item = (xs.take k).map co_Item ∧ ys.length = k ∧ Zs.length = (N - k) * 4) ∧ Sl.Sep w wr [Sv.ownV 135 4 (some ⟨g1, 0, none⟩) N N (ys.flatMap cl_Item ++ Zs), Bag.bag (rws_Item ys)])) (fun i _ => N - (intOf i).toNat)
 case atStart => exact ⟨0, [], Z, Nat.zero_le _, rfl, And.intro ⟨rfl, rfl, HZ.out⟩ S3.out⟩
 case round =>
  obtain ⟨k, ys, Zs, hk, rfl, hrel⟩ := hrel
  have HC := Lib.hid hrel.out.1
  have S4 := Lib.hid hrel.out.2
  clear hrel S3
  by_cases hlt : (k : Int) < (N : Int)
  ·
   skip
   have hkl : k < xs.length := by have := HN.out; omega
   obtain ⟨x, hx⟩ : ∃ x, xs[k]? = some x := ⟨_, List.getElem?_eq_getElem hkl⟩
   obtain ⟨ad, e'⟩ := el_some cl_Item_len (by decide) (HR.out _ S4.out.old) hkl
   subst e'
   have HK := Lib.hid (fun w' (h : Below w.heap.size w w') => el4 cl_Item_len (HR.out _ h) hx rfl)
   have HTX := Lib.hid (take_next hx)
   have HL := Lib.hid (show (ys.flatMap cl_Item).length = k * 4 ∧ k * 4 + 4 ≤ (ys.flatMap cl_Item ++ Zs).length ∧ 4 ≤ Zs.length from by have h1 := HC.out.2.1; have h2 := HC.out.2.2; rw [List.length_append, flat_len cl_Item_len, h1, h2]; omega)
   have HCI := Lib.hid (fun w' (h : Below w.heap.size w w') => HCO.out x (HF.out x (List.mem_of_getElem? hx)) w' (rd_el (rw_ := rw_Item) (by rw [← rws_Item_eq]; exact HX.out w' h) hx))
   dsimp only [vv_Item] at HCI
   clear hx
   obtain ⟨f0, f1, f2, f3⟩ := HK.out _ S4.out.old
   go_upto_region 5 with fail
   clear f0 f1 f2 f3
   have S5 := Lib.hid (show Sl.Sep w _ [_, _, _] from L4.push_box S4.out 135 #[.int .i64 x.k.kind, .int .i64 x.k.n, .string x.k.text, .slice x.a x.l.length x.c] wr.heap.size rfl)
   clear S4
   obtain ⟨g2, hg⟩ : ∃ g', g' = wr.heap.size := ⟨_, rfl⟩
   rw [← hg] at S5 ⊢
   clear hg
   generalize wr.alloc (.cells #[.int .i64 x.k.kind, .int .i64 x.k.n, .string x.k.text, .slice x.a x.l.length x.c] 135) = w2 at S5 ⊢
   obtain ⟨f0, f1, f2, f3⟩ := Bag.cs4 S5.out 2 rfl
   obtain ⟨f4, f5, f6, f7⟩ := HK.out _ S5.out.old
   go_wp2_with fail
   go_at_call 105
   refine (HCI.out _ S5.out.old).mono ?_
   rintro e w3 ⟨y, rfl, hcy, ho, hb⟩
   clear f0 f1 f2 f3 f4 f5 f6 f7
   have S6 := Lib.hid (show Sl.Sep w _ [_, _, L4.boxR g2 135 #[.int .i64 x.k.kind, .int .i64 x.k.n, .string x.k.text, .slice x.a x.l.length x.c], Bag.bag (rw_Item y)] from Bag.push_bag S5.out hb ho)
   clear S5
   clear hb ho
   have HCY := Lib.hid hcy
   clear hcy
   try dsimp only [vv_Item]
   have q0 := (Sv.own_at S6.out 0 rfl).cell (k * 4) (by have := HL.out.2.1; omega)
   have z0 := (Sv.own_at S6.out 0 rfl).free (k * 4)
   have q1 := (Sv.own_at S6.out 0 rfl).cell (k * 4 + 1) (by have := HL.out.2.1; omega)
   have z1 := (Sv.own_at S6.out 0 rfl).free (k * 4 + 1)
   have q2 := (Sv.own_at S6.out 0 rfl).cell (k * 4 + 2) (by have := HL.out.2.1; omega)
   have z2 := (Sv.own_at S6.out 0 rfl).free (k * 4 + 2)
   have q3 := (Sv.own_at S6.out 0 rfl).cell (k * 4 + 3) (by have := HL.out.2.1; omega)
   have z3 := (Sv.own_at S6.out 0 rfl).free (k * 4 + 3)
   go_wp2_with fail
   clear q0 z0 q1 z1 q2 z2 q3 z3
   have S7 := Lib.hid (show Sl.Sep w (World.setCells w3 g1 (k * 4) [.int .i64 y.k.kind, .int .i64 y.k.n, .string y.k.text, .slice y.a y.l.length y.c]) [Sv.ownV 135 4 (some ⟨g1, 0, none⟩) N N ((ys ++ [y]).flatMap cl_Item ++ Zs.drop 4), Bag.bag (rws_Item ys), L4.boxR g2 135 #[.int .i64 x.k.kind, .int .i64 x.k.n, .string x.k.text, .slice x.a x.l.length x.c], Bag.bag (rw_Item y)] from (by have h := Run.put_run S6.out 0 rfl (k * 4) [.int .i64 y.k.kind, .int .i64 y.k.n, .string y.k.text, .slice y.a y.l.length y.c] (by have := HL.out.2.1; simpa using this); rw [Run.over_at _ _ _ _ HL.out.1 (by have := HL.out.2.2; simpa using this)] at h; rw [List.flatMap_append, List.append_assoc]; exact h))
   clear S6
   have S8 := Lib.hid (show Sl.Sep w _ [Sv.ownV 135 4 (some ⟨g1, 0, none⟩) N N ((ys ++ [y]).flatMap cl_Item ++ Zs.drop 4), Bag.bag (rws_Item ys ++ (rw_Item y)), L4.boxR g2 135 #[.int .i64 x.k.kind, .int .i64 x.k.n, .string x.k.text, .slice x.a x.l.length x.c], Bag.bag ([])] from Bag.bag_join S7.out 1 3 (by decide) rfl rfl)
   clear S7
   have S9 := Lib.hid (show Sl.Sep w _ [_, _] from Bag.take S8.out [0, 1] (by rfl) (by decide))
   clear S8
   go_roundw
   case rel =>
    refine ⟨k + 1, ys ++ [y], Zs.drop 4, by omega, by go_num, And.intro ⟨?_, ?_, ?_⟩ ?_⟩
    ·
     rw [HTX.out, List.map_append, List.map_append, HC.out.1]; rw [show [y].map co_Item = [x].map co_Item from congrArg (fun u => [u]) HCY.out]
    ·
     rw [List.length_append, HC.out.2.1]; rfl
    ·
     rw [List.length_drop, HC.out.2.2]; omega
    ·
     rw [rws_Item_app]; rw [show rws_Item [y] = rw_Item y from by rw [rws_Item_eq]; simp]; exact S9.out
   case measure => simp [intOf]; omega
  ·
   skip
   obtain rfl : k = N := by omega
   go_wp2_with fail
   go_ret
   obtain ⟨hc1, hc2, hc3⟩ := HC.out
   have hZs : Zs = [] := List.eq_nil_of_length_eq_zero (by rw [hc3]; omega)
   have hcon : ys.map co_Item = xs.map co_Item := by rw [hc1, List.take_of_length_le (by have := HN.out; omega)]
   have S90 := Lib.hid (Bag.bag_of_one S4.out 0 (r := row_Item (some ⟨g1, 0, none⟩) k ys) (by unfold RowS.res row_Item; dsimp only; rw [hZs, List.append_nil, hc2]; rfl))
   have S91 := Lib.hid (Bag.bag_join S90.out 0 1 (by decide) rfl rfl)
   have hb := Bag.bag_from S91.out 0 rfl
   subst hc2
   exact ⟨_, ys, rfl, by rw [coS_Item_eq, coS_Item_eq]; exact hcon, hb, S91.out.old⟩
end Go.Proofs.YthljdhfgphebnaaGreat.V

set_option linter.unusedSimpArgs false
namespace Go.Proofs.YthljdhfgphebnaaGreat.L6
open L4 (K isK cmpK R inR encU)
open L5 (F isR isN cellsF encR eqR Small)
open Go.ChangeShapes Go.WideShapes Go.ChangeAt Go.RowKit Mem Sl Ex L2 Sv Bag

set_option maxHeartbeats 2000000 in
theorem copyItem_any (kd n : Int) (s : ByteArray) (a : Option Addr) (c : Nat) (l : List F) (hl : l.length ≤ 1048576) (w : World) (hr : Reads w w.heap.size a (cellsF l)) :
  Calls Tryz.prog 105 #[.agg #[.int .i64 kd, .int .i64 n, .string s, .slice a l.length c]] w (GaveI w ⟨⟨kd, n, s⟩, l⟩) := by
 have HC := Lib.hid (fun w' (h : Below w.heap.size w w') => L5.copyRecord_any a c l (by have := hl; omega) w' ((hr.below h).more h.size))
 obtain ⟨N, hN⟩ : ∃ n, n = l.length := ⟨_, rfl⟩
 rw [← hN] at HC ⊢
 have HN := Lib.hid hN
 clear hN hr hl
 have S1 := Lib.hid (show Sl.Sep w _ [_, _] from L4.push_box (L4.push_box (Sl.Sep.start w) 135 #[.int .i64 kd, .int .i64 n, .string s, .slice a N c] (w.heap.size) (by simp)) 135 #[.int .i64 0, .int .i64 0, .string ⟨#[]⟩, .slice none 0 0] (w.heap.size + 1) (by simp))
 obtain ⟨wa, hwa⟩ : ∃ w_, w_ = ((w.alloc (.cells #[.int .i64 kd, .int .i64 n, .string s, .slice a N c] 135)).alloc (.cells #[.int .i64 0, .int .i64 0, .string ⟨#[]⟩, .slice none 0 0] 135)) := ⟨_, rfl⟩
 rw [← hwa] at S1
 go_enter Tryz.func105, Tryz.ntmps105
 go_upto_region 1 with fail
 rw [← hwa]
 clear hwa
 go_upto_region 1 with fail
 refine wp_region_held_drew (S := (fun w' => (w'.cell? ⟨w.heap.size, 0, none⟩ = some (.int .i64 kd) ∧ w'.cell? ⟨w.heap.size, 1, none⟩ = some (.int .i64 n) ∧ w'.cell? ⟨w.heap.size, 2, none⟩ = some (.string s) ∧ w'.cell? ⟨w.heap.size, 3, none⟩ = some (.slice a N c)))) (by kernel_rfl) (Bag.cs4 (Bag.drew1 S1.out) 0 rfl) (fun hS => ?_)
 have S2 := Lib.hid (Bag.drew1 S1.out)
 clear S1
 generalize World.drew _ = w1 at hS S2 ⊢
 refine tk 0 rfl ?_
 try simp only [zp0, zp1, zp2, zp3, zp4]
 refine tk 1 rfl ?_
 try simp only [zp0, zp1, zp2, zp3, zp4]
 refine tk 2 rfl ?_
 try simp only [zp0, zp1, zp2, zp3, zp4]
 refine tk 3 rfl ?_
 try simp only [zp0, zp1, zp2, zp3, zp4]
 refine Reg.one_op (i := 4) rfl (by kernel_rfl) (fun K hK => ?_)
 go_simp
 go_at_call 141
 refine (HC.out _ S2.out.old).mono ?_
 rintro e w2 ⟨a1, c1, rfl, ho, hb⟩
 have S3 := Lib.hid (show Sl.Sep w _ [_, _, Sv.ownV 184 2 a1 c1 N (cellsF l)] from Sv.push_own S2.out hb ho)
 clear S2
 clear hb ho
 go_wp2_with fail
 refine hK.out _ _ (Bag.cs4 S3.out 0 rfl) (fun hS => ?_)
 clear hK K
 try simp only [zp0, zp1, zp2, zp3, zp4]
 refine tk 5 rfl ?_
 try simp only [zp0, zp1, zp2, zp3, zp4]
 refine Reg.one_op (i := 6) rfl (by kernel_rfl) (fun K hK => ?_)
 obtain ⟨f0, f1, f2, f3⟩ := Bag.cs4 S3.out 1 rfl
 obtain ⟨z0, z1, z2, z3⟩ := Bag.fs4 S3.out 1 rfl
 go_simp
 clear f0 f1 f2 f3 z0 z1 z2 z3
 have S4 := Lib.hid (show Sl.Sep w _ [_, L4.boxR (w.heap.size + 1) 135 #[.int .i64 kd, .int .i64 n, .string s, .slice a1 N c1], _] from L5.put_box5 (L5.put_box5 (L5.put_box5 (L5.put_box5 (S3.out) 1 rfl 0 (.int .i64 kd)) 1 rfl 1 (.int .i64 n)) 1 rfl 2 (.string s)) 1 rfl 3 (.slice a1 N c1))
 clear S3
 refine hK.out _ _ (Bag.cs4 S4.out 0 rfl) (fun hS => ?_)
 clear hK K
 try simp only [zp0, zp1, zp2, zp3, zp4]
 refine wpAnyH_done (by kernel_rfl) ?_ _
 obtain ⟨f0, f1, f2, f3⟩ := Bag.cs4 S4.out 0 rfl
 obtain ⟨f4, f5, f6, f7⟩ := Bag.cs4 S4.out 1 rfl
 go_wp2_with fail
 refine bodyPost_ret (v := .agg #[.int .i64 kd, .int .i64 n, .string s, .slice a1 N c1]) (by simp [results, Tryz.results105, go_sem, *]) rfl ?_
 have hb := Bag.bag_from (Bag.bag_of_one S4.out 2 (r := (LI.mk ⟨kd, n, s⟩ a1 c1 l).row) (by show some _ = some _; rw [HN.out]; rfl)) 2 rfl
 exact ⟨a1, c1, by rw [HN.out], hb, S4.out.old⟩
theorem copyItem_V (x : LI) (hf : FitI (V.co_Item x)) (w : World) (hr : RowsRd w w.heap.size (V.rw_Item x)) : Calls Tryz.prog 105 #[V.vv_Item x] w (V.Copied_Item w x) :=
 (copyItem_any x.k.kind x.k.n x.k.text x.a x.c x.l hf.len w (V.rd_head hr).reads).mono fun e w' ⟨a, c, he, ho, hb⟩ => ⟨⟨x.k, a, c, x.l⟩, he, rfl, ho, hb⟩
def GaveSF (w : World) (s : S6) (e : Ending) (w' : World) : Prop :=
 ∃ (g : Nat) (ys : List LI), e = .returned (.agg #[.string s.name, .slice (some ⟨g, 0, none⟩) ys.length ys.length, .int .i64 s.auto]) ∧ conI ys = s.items ∧ BagOwn w' w.heap.size (rowI (some ⟨g, 0, none⟩) ys.length ys :: rowsI ys) ∧ Below w.heap.size w w'

set_option maxHeartbeats 4000000 in
theorem copyStore_full (y : LS) (hf : FitS y.con) (w : World) (hr : RowsRd w w.heap.size y.rows) :
  Calls Tryz.prog 72 #[y.v] w (GaveSF w y.con) := by
 have HCE := Lib.hid (fun w' (h : Below w.heap.size w w') => V.copyEach_Item copyItem_V y.a y.c y.xs (by have h := hf.len; simpa [LS.con] using h) (fun x hx => hf.items _ (by unfold LS.con conI; exact List.mem_map.2 ⟨x, hx, rfl⟩)) w' (show Reads _ _ _ (y.xs.flatMap V.cl_Item) from ((LS.outer (hr.below h)).more h.size)) (show RowsRd _ _ (V.rws_Item y.xs) from (LS.inner (hr.below h)).more h.size))
 obtain ⟨name, a, c, xs, auto⟩ := y
 have HR := Lib.hid (fun w' (h : Below w.heap.size w w') => LS.outer (hr.below h))
 have HX := Lib.hid (fun w' (h : Below w.heap.size w w') => (LS.inner (hr.below h)).more h.size)
 have HF := Lib.hid hf.items
 have HNM := Lib.hid hf.name
 have hl := hf.len
 simp only [LS.con, conI_length] at hl
 dsimp only [LS.con] at HR HX HF HNM
 first | unfold LS.v LS.cells LS.con | unfold LS.v LS.cells | skip
 try dsimp only
 obtain ⟨N, hN⟩ : ∃ n, n = xs.length := ⟨_, rfl⟩
 rw [← hN] at hl ⊢
 have hl' : (N : Int) ≤ 1048576 := by omega
 have HN := Lib.hid hN
 clear hN hr hf
 rw [← HN.out] at HCE
 replace HCE := Lib.hid HCE.out
 have S1 := Lib.hid (show Sl.Sep w _ [_, _] from L4.push_box (L4.push_box (Sl.Sep.start w) 70 #[.string name, .slice a N c, .int .i64 auto] (w.heap.size) (by simp)) 70 #[.string ⟨#[]⟩, .slice none 0 0, .int .i64 0] (w.heap.size + 1) (by simp))
 obtain ⟨wa, hwa⟩ : ∃ w_, w_ = ((w.alloc (.cells #[.string name, .slice a N c, .int .i64 auto] 70)).alloc (.cells #[.string ⟨#[]⟩, .slice none 0 0, .int .i64 0] 70)) := ⟨_, rfl⟩
 rw [← hwa] at S1
 go_enter Tryz.func72, Tryz.ntmps72
 go_upto_region 1 with fail
 rw [← hwa]
 clear hwa
 go_upto_region 1 with fail
 refine wp_region_held_drew (S := (fun w' => (w'.cell? ⟨w.heap.size, 0, none⟩ = some (.string name) ∧ w'.cell? ⟨w.heap.size, 1, none⟩ = some (.slice a N c) ∧ w'.cell? ⟨w.heap.size, 2, none⟩ = some (.int .i64 auto)))) (by kernel_rfl) (Bag.cs3 (Bag.drew1 S1.out) 0 rfl) (fun hS => ?_)
 have S2 := Lib.hid (Bag.drew1 S1.out)
 clear S1
 generalize World.drew _ = w1 at hS S2 ⊢
 refine tk 0 rfl ?_
 try simp only [zp0, zp1, zp2, zp3, zp4]
 refine tk 1 rfl ?_
 try simp only [zp0, zp1, zp2, zp3, zp4]
 refine tk 2 rfl ?_
 try simp only [zp0, zp1, zp2, zp3, zp4]
 refine tk 3 rfl ?_
 try simp only [zp0, zp1, zp2, zp3, zp4]
 refine tk 5 rfl ?_
 try simp only [zp0, zp1, zp2, zp3, zp4]
 refine tk 6 rfl ?_
 try simp only [zp0, zp1, zp2, zp3, zp4]
 refine Reg.one_op (i := 4) rfl (by kernel_rfl) (fun K hK => ?_)
 go_simp
 go_at_call 104
 refine (HCE.out _ S2.out.old).mono ?_
 rintro e w2 ⟨g1, ys, rfl, hcy, ho, hb⟩
 have S3 := Lib.hid (show Sl.Sep w _ [_, _, Bag.bag (V.rs_Item (some ⟨g1, 0, none⟩) ys.length ys)] from Bag.push_bag S2.out hb ho)
 clear S2
 clear hb ho
 have HCY := Lib.hid hcy
 clear hcy
 go_wp2_with fail
 refine hK.out _ _ (Bag.cs3 S3.out 0 rfl) (fun hS => ?_)
 clear hK K
 try simp only [zp0, zp1, zp2, zp3, zp4]
 refine tk 7 rfl ?_
 try simp only [zp0, zp1, zp2, zp3, zp4]
 refine Reg.one_op (i := 8) rfl (by kernel_rfl) (fun K hK => ?_)
 obtain ⟨f0, f1, f2⟩ := Bag.cs3 S3.out 1 rfl
 obtain ⟨z0, z1, z2⟩ := Bag.fs3 S3.out 1 rfl
 go_simp
 clear f0 f1 f2 z0 z1 z2
 have S4 := Lib.hid (show Sl.Sep w _ [_, L4.boxR (w.heap.size + 1) 70 #[.string name, .slice (some ⟨g1, 0, none⟩) ys.length ys.length, .int .i64 auto], _] from L5.put_box5 (L5.put_box5 (L5.put_box5 (S3.out) 1 rfl 0 (.string name)) 1 rfl 1 (.slice (some ⟨g1, 0, none⟩) ys.length ys.length)) 1 rfl 2 (.int .i64 auto))
 clear S3
 refine hK.out _ _ (Bag.cs3 S4.out 0 rfl) (fun hS => ?_)
 clear hK K
 try simp only [zp0, zp1, zp2, zp3, zp4]
 refine wpAnyH_done (by kernel_rfl) ?_ _
 obtain ⟨f0, f1, f2⟩ := Bag.cs3 S4.out 0 rfl
 obtain ⟨f3, f4, f5⟩ := Bag.cs3 S4.out 1 rfl
 go_wp2_with fail
 refine bodyPost_ret (v := .agg #[.string name, .slice (some ⟨g1, 0, none⟩) ys.length ys.length, .int .i64 auto]) (by simp [results, Tryz.results72, go_sem, *]) rfl ?_
 exact ⟨g1, ys, rfl, HCY.out, Bag.bag_from S4.out 2 rfl, S4.out.old⟩
theorem copyStore_any (y : LS) (hf : FitS y.con) (w : World) (hr : RowsRd w w.heap.size y.rows) : Calls Tryz.prog 72 #[y.v] w (GaveS w y.con) := by
 refine (copyStore_full y hf w hr).mono ?_
 rintro e w' ⟨g, ys, rfl, hc, hb, ho⟩
 exact ⟨⟨y.name, some ⟨g, 0, none⟩, ys.length, ys, y.auto⟩, rfl, by unfold LS.con; dsimp only; rw [hc]; rfl, hb, ho⟩
end Go.Proofs.YthljdhfgphebnaaGreat.L6

set_option linter.unusedSimpArgs false
namespace Go.Proofs.YthljdhfgphebnaaGreat.L10
open V L6 L9
open L4 (K isK cmpK)
open L5 (F isR isN string_geq)
open Go.Op (bytesLess)
open Go.ChangeShapes Go.WideShapes Go.ChangeAt Go.RowKit Mem Sl Ex L2 Sv Bag

set_option maxHeartbeats 4000000 in
theorem copyOp_V (x : Y_Op) (hf : FitO (co_Op x)) (w : World) (hr : RowsRd w w.heap.size (rw_Op x)) :
  Calls Tryz.prog 152 #[vv_Op x] w (Copied_Op w x) := by
 have HRR := Lib.hid (fun w' (h : Below w.heap.size w w') => (((rdO hr).below h).more h.size : Reads w' w'.heap.size x.f_Record.a (L5.cellsF x.f_Record.l)))
 have HFO := Lib.hid (show FitO ⟨x.f_Kind, x.f_Store, x.f_Key, x.f_Record.l, x.f_Field⟩ from hf)
 clear hf hr
 obtain ⟨kd, st, ⟨kk, kn, kt⟩, ⟨ra, rc, rl⟩, fd⟩ := x
 try unfold vv_Op
 dsimp only at HRR HFO ⊢
 skip
 have HC := Lib.hid (fun w' (h : Below w.heap.size w w') => L5.copyRecord_any ra rc rl (by have h9 := HFO.out.len; exact Nat.le_trans h9 (by decide)) w' (HRR.out w' h))
 have S1 := Lib.hid (show Sl.Sep w _ [_, _] from L4.push_box (L4.push_box (Sl.Sep.start w) 133 #[.int .i64 kd, .string st, .int .i64 kk, .int .i64 kn, .string kt, .slice ra rl.length rc, .string fd] (w.heap.size) (by simp)) 133 #[.int .i64 0, .string ⟨#[]⟩, .int .i64 0, .int .i64 0, .string ⟨#[]⟩, .slice none 0 0, .string ⟨#[]⟩] (w.heap.size + 1) (by simp))
 obtain ⟨wa, hwa⟩ : ∃ w_, w_ = ((w.alloc (.cells #[.int .i64 kd, .string st, .int .i64 kk, .int .i64 kn, .string kt, .slice ra rl.length rc, .string fd] 133)).alloc (.cells #[.int .i64 0, .string ⟨#[]⟩, .int .i64 0, .int .i64 0, .string ⟨#[]⟩, .slice none 0 0, .string ⟨#[]⟩] 133)) := ⟨_, rfl⟩
 rw [← hwa] at S1
 go_enter Tryz.func152, Tryz.ntmps152
 go_upto_region 1 with fail
 rw [← hwa]
 clear hwa
 go_upto_region 1 with fail
 refine wp_region_held_drew (S := (fun w' => (w'.cell? ⟨w.heap.size, 0, none⟩ = some (.int .i64 kd) ∧ w'.cell? ⟨w.heap.size, 1, none⟩ = some (.string st) ∧ w'.cell? ⟨w.heap.size, 2, none⟩ = some (.int .i64 kk) ∧ w'.cell? ⟨w.heap.size, 3, none⟩ = some (.int .i64 kn) ∧ w'.cell? ⟨w.heap.size, 4, none⟩ = some (.string kt) ∧ w'.cell? ⟨w.heap.size, 5, none⟩ = some (.slice ra rl.length rc) ∧ w'.cell? ⟨w.heap.size, 6, none⟩ = some (.string fd)))) (by kernel_rfl) (Bag.cs7 (Bag.drew1 S1.out) 0 rfl) (fun hS => ?_)
 have S2 := Lib.hid (Bag.drew1 S1.out)
 clear S1
 generalize World.drew _ = w1 at hS S2 ⊢
 refine tk 0 rfl ?_
 try simp only [zp0, zp1, zp2, zp3, zp4]
 refine tk 1 rfl ?_
 try simp only [zp0, zp1, zp2, zp3, zp4]
 refine tk 2 rfl ?_
 try simp only [zp0, zp1, zp2, zp3, zp4]
 refine tk 3 rfl ?_
 try simp only [zp0, zp1, zp2, zp3, zp4]
 refine tk 4 rfl ?_
 try simp only [zp0, zp1, zp2, zp3, zp4]
 refine tk 5 rfl ?_
 try simp only [zp0, zp1, zp2, zp3, zp4]
 refine tk 6 rfl ?_
 try simp only [zp0, zp1, zp2, zp3, zp4]
 refine tk 7 rfl ?_
 try simp only [zp0, zp1, zp2, zp3, zp4]
 refine tk 9 rfl ?_
 try simp only [zp0, zp1, zp2, zp3, zp4]
 refine tk 10 rfl ?_
 try simp only [zp0, zp1, zp2, zp3, zp4]
 refine Reg.one_op (i := 8) rfl (by kernel_rfl) (fun K hK => ?_)
 go_simp
 go_at_call 141
 refine (HC.out _ S2.out.old).mono ?_
 rintro e w2 ⟨a1, c1, rfl, ho, hb⟩
 have S3 := Lib.hid (show Sl.Sep w _ [_, _, Sv.ownV 184 2 a1 c1 rl.length (L5.cellsF rl)] from Sv.push_own S2.out hb ho)
 clear S2
 clear hb ho
 go_wp2_with fail
 refine hK.out _ _ (Bag.cs7 S3.out 0 rfl) (fun hS => ?_)
 clear hK K
 try simp only [zp0, zp1, zp2, zp3, zp4]
 refine tk 11 rfl ?_
 try simp only [zp0, zp1, zp2, zp3, zp4]
 refine Reg.one_op (i := 12) rfl (by kernel_rfl) (fun K hK => ?_)
 obtain ⟨f0, f1, f2, f3, f4, f5, f6⟩ := Bag.cs7 S3.out 1 rfl
 obtain ⟨z0, z1, z2, z3, z4, z5, z6⟩ := Bag.fs7 S3.out 1 rfl
 go_simp
 clear f0 f1 f2 f3 f4 f5 f6 z0 z1 z2 z3 z4 z5 z6
 have S4 := Lib.hid (show Sl.Sep w _ [_, L4.boxR (w.heap.size + 1) 133 #[.int .i64 kd, .string st, .int .i64 kk, .int .i64 kn, .string ⟨#[]⟩, .slice none 0 0, .string ⟨#[]⟩], _] from L5.put_box5 (L5.put_box5 (L5.put_box5 (L5.put_box5 (S3.out) 1 rfl 0 (.int .i64 kd)) 1 rfl 1 (.string st)) 1 rfl 2 (.int .i64 kk)) 1 rfl 3 (.int .i64 kn))
 clear S3
 have S5 := Lib.hid (show Sl.Sep w _ [_, L4.boxR (w.heap.size + 1) 133 #[.int .i64 kd, .string st, .int .i64 kk, .int .i64 kn, .string kt, .slice a1 rl.length c1, .string fd], _] from L5.put_box5 (L5.put_box5 (L5.put_box5 (S4.out) 1 rfl 4 (.string kt)) 1 rfl 5 (.slice a1 rl.length c1)) 1 rfl 6 (.string fd))
 clear S4
 refine hK.out _ _ (Bag.cs7 S5.out 0 rfl) (fun hS => ?_)
 clear hK K
 try simp only [zp0, zp1, zp2, zp3, zp4]
 refine wpAnyH_done (by kernel_rfl) ?_ _
 obtain ⟨f0, f1, f2, f3, f4, f5, f6⟩ := Bag.cs7 S5.out 0 rfl
 obtain ⟨f7, f8, f9, f10, f11, f12, f13⟩ := Bag.cs7 S5.out 1 rfl
 go_wp2_with fail
 refine bodyPost_ret (v := .agg #[.int .i64 kd, .string st, .int .i64 kk, .int .i64 kn, .string kt, .slice a1 rl.length c1, .string fd]) (by simp [results, Tryz.results152, go_sem, *]) rfl ?_
 have hb := Bag.bag_from (Bag.bag_of_one S5.out 2 (r := row_Field a1 c1 rl) rfl) 2 rfl
 exact ⟨⟨kd, st, ⟨kk, kn, kt⟩, ⟨a1, c1, rl⟩, fd⟩, rfl, rfl, hb, S5.out.old⟩
theorem copyStore_V (x : L6.LS) (hf : FitS (co_Store x)) (w : World) (hr : RowsRd w w.heap.size (rw_Store x)) : Calls Tryz.prog 72 #[vv_Store x] w (Copied_Store w x) :=
 (copyStore_any x hf w hr).mono fun e w' ⟨y, he, hc, hb, ho⟩ => ⟨y, he, hc, hb, ho⟩
set_option maxHeartbeats 4000000 in
theorem copyTx_V (x : Y_Tx) (hf : FitT (co_Tx x)) (w : World) (hr : RowsRd w w.heap.size (rw_Tx x)) :
  Calls Tryz.prog 124 #[vv_Tx x] w (Copied_Tx w x) := by
 have HRx := Lib.hid (fun w' (h : Below w.heap.size w w') => ((hr.below h).more h.size : RowsRd w' w'.heap.size (rw_Tx x)))
 have HFx := Lib.hid hf
 clear hr hf
 have HCO := Lib.hid (fun w' (h : Below w.heap.size w w') => copyEach_Op copyOp_V x.f_Ops_a x.f_Ops_c x.f_Ops (by have h := HFx.out.len; rwa [show (co_Tx x).f_Ops = coS_Op x.f_Ops from rfl, coS_len] at h) (fun o ho => HFx.out.ops _ (by show _ ∈ coS_Op x.f_Ops; rw [coS_Op_eq]; exact List.mem_map.2 ⟨o, ho, rfl⟩)) w' (rdTo (HRx.out w' h)) (rdTox (HRx.out w' h)))
 have HCB := Lib.hid (fun w' (h : Below w.heap.size w w') => copyEach_Store copyStore_V x.f_Backup_a x.f_Backup_c x.f_Backup (by have h := HFx.out.blen; rwa [show (co_Tx x).f_Backup = coS_Store x.f_Backup from rfl, coS_Store_eq, List.length_map] at h) (fun s hs => HFx.out.back _ (by show _ ∈ coS_Store x.f_Backup; rw [coS_Store_eq]; exact List.mem_map.2 ⟨s, hs, rfl⟩)) w' (rdTb (HRx.out w' h)) (rdTbx (HRx.out w' h)))
 unfold vv_Tx
 have S1 := Lib.hid (show Sl.Sep w _ [_, _] from L4.push_box (L4.push_box (Sl.Sep.start w) 89 #[.int .i64 x.f_Id, .slice x.f_Ops_a x.f_Ops.length x.f_Ops_c, .int .i64 x.f_At, .int .i64 x.f_State, .slice x.f_Backup_a x.f_Backup.length x.f_Backup_c] (w.heap.size) (by simp)) 89 #[.int .i64 0, .slice none 0 0, .int .i64 0, .int .i64 0, .slice none 0 0] (w.heap.size + 1) (by simp))
 obtain ⟨wa, hwa⟩ : ∃ w_, w_ = ((w.alloc (.cells #[.int .i64 x.f_Id, .slice x.f_Ops_a x.f_Ops.length x.f_Ops_c, .int .i64 x.f_At, .int .i64 x.f_State, .slice x.f_Backup_a x.f_Backup.length x.f_Backup_c] 89)).alloc (.cells #[.int .i64 0, .slice none 0 0, .int .i64 0, .int .i64 0, .slice none 0 0] 89)) := ⟨_, rfl⟩
 rw [← hwa] at S1
 go_enter Tryz.func124, Tryz.ntmps124
 go_upto_region 1 with fail
 rw [← hwa]
 clear hwa
 go_upto_region 1 with fail
 refine wp_region_held_drew (S := (fun w' => (w'.cell? ⟨w.heap.size, 0, none⟩ = some (.int .i64 x.f_Id) ∧ w'.cell? ⟨w.heap.size, 1, none⟩ = some (.slice x.f_Ops_a x.f_Ops.length x.f_Ops_c) ∧ w'.cell? ⟨w.heap.size, 2, none⟩ = some (.int .i64 x.f_At) ∧ w'.cell? ⟨w.heap.size, 3, none⟩ = some (.int .i64 x.f_State) ∧ w'.cell? ⟨w.heap.size, 4, none⟩ = some (.slice x.f_Backup_a x.f_Backup.length x.f_Backup_c)))) (by kernel_rfl) (Bag.cs5 (Bag.drew1 S1.out) 0 rfl) (fun hS => ?_)
 have S2 := Lib.hid (Bag.drew1 S1.out)
 clear S1
 generalize World.drew _ = w1 at hS S2 ⊢
 refine tk 0 rfl ?_
 try simp only [zp0, zp1, zp2, zp3, zp4]
 refine tk 1 rfl ?_
 try simp only [zp0, zp1, zp2, zp3, zp4]
 refine tk 2 rfl ?_
 try simp only [zp0, zp1, zp2, zp3, zp4]
 refine tk 3 rfl ?_
 try simp only [zp0, zp1, zp2, zp3, zp4]
 refine tk 5 rfl ?_
 try simp only [zp0, zp1, zp2, zp3, zp4]
 refine tk 6 rfl ?_
 try simp only [zp0, zp1, zp2, zp3, zp4]
 refine tk 7 rfl ?_
 try simp only [zp0, zp1, zp2, zp3, zp4]
 refine tk 8 rfl ?_
 try simp only [zp0, zp1, zp2, zp3, zp4]
 refine tk 9 rfl ?_
 try simp only [zp0, zp1, zp2, zp3, zp4]
 refine tk 10 rfl ?_
 try simp only [zp0, zp1, zp2, zp3, zp4]
 refine Reg.one_op (i := 4) rfl (by kernel_rfl) (fun K hK => ?_)
 go_simp
 go_at_call 151
 refine (HCO.out _ S2.out.old).mono ?_
 rintro e w2 ⟨g1, ys, rfl, hcy, ho, hb⟩
 have S3 := Lib.hid (show Sl.Sep w _ [_, _, Bag.bag (rs_Op (some ⟨g1, 0, none⟩) ys.length ys)] from Bag.push_bag S2.out hb ho)
 clear S2
 clear hb ho
 have HCY := Lib.hid hcy
 clear hcy
 go_wp2_with fail
 refine hK.out _ _ (Bag.cs5 S3.out 0 rfl) (fun hS => ?_)
 clear hK K
 try simp only [zp0, zp1, zp2, zp3, zp4]
 refine Reg.one_op (i := 11) rfl (by kernel_rfl) (fun K hK => ?_)
 go_simp
 go_at_call 71
 refine (HCB.out _ S3.out.old).mono ?_
 rintro e w3 ⟨g2, zs, rfl, hcz, ho, hb⟩
 have S4 := Lib.hid (show Sl.Sep w _ [_, _, _, Bag.bag (rs_Store (some ⟨g2, 0, none⟩) zs.length zs)] from Bag.push_bag S3.out hb ho)
 clear S3
 clear hb ho
 have HCZ := Lib.hid hcz
 clear hcz
 go_wp2_with fail
 refine hK.out _ _ (Bag.cs5 S4.out 0 rfl) (fun hS => ?_)
 clear hK K
 try simp only [zp0, zp1, zp2, zp3, zp4]
 refine tk 12 rfl ?_
 try simp only [zp0, zp1, zp2, zp3, zp4]
 refine Reg.one_op (i := 13) rfl (by kernel_rfl) (fun K hK => ?_)
 obtain ⟨f0, f1, f2, f3, f4⟩ := Bag.cs5 S4.out 1 rfl
 obtain ⟨z0, z1, z2, z3, z4⟩ := Bag.fs5 S4.out 1 rfl
 go_simp
 clear f0 f1 f2 f3 f4 z0 z1 z2 z3 z4
 have S5 := Lib.hid (show Sl.Sep w _ [_, L4.boxR (w.heap.size + 1) 89 #[.int .i64 x.f_Id, .slice (some ⟨g1, 0, none⟩) ys.length ys.length, .int .i64 x.f_At, .int .i64 x.f_State, .slice none 0 0], _, _] from L5.put_box5 (L5.put_box5 (L5.put_box5 (L5.put_box5 (S4.out) 1 rfl 0 (.int .i64 x.f_Id)) 1 rfl 1 (.slice (some ⟨g1, 0, none⟩) ys.length ys.length)) 1 rfl 2 (.int .i64 x.f_At)) 1 rfl 3 (.int .i64 x.f_State))
 clear S4
 have S6 := Lib.hid (show Sl.Sep w _ [_, L4.boxR (w.heap.size + 1) 89 #[.int .i64 x.f_Id, .slice (some ⟨g1, 0, none⟩) ys.length ys.length, .int .i64 x.f_At, .int .i64 x.f_State, .slice (some ⟨g2, 0, none⟩) zs.length zs.length], _, _] from L5.put_box5 (S5.out) 1 rfl 4 (.slice (some ⟨g2, 0, none⟩) zs.length zs.length))
 clear S5
 refine hK.out _ _ (Bag.cs5 S6.out 0 rfl) (fun hS => ?_)
 clear hK K
 try simp only [zp0, zp1, zp2, zp3, zp4]
 refine wpAnyH_done (by kernel_rfl) ?_ _
 obtain ⟨f0, f1, f2, f3, f4⟩ := Bag.cs5 S6.out 0 rfl
 obtain ⟨f5, f6, f7, f8, f9⟩ := Bag.cs5 S6.out 1 rfl
 go_wp2_with fail
 refine bodyPost_ret (v := .agg #[.int .i64 x.f_Id, .slice (some ⟨g1, 0, none⟩) ys.length ys.length, .int .i64 x.f_At, .int .i64 x.f_State, .slice (some ⟨g2, 0, none⟩) zs.length zs.length]) (by simp [results, Tryz.results124, go_sem, *]) rfl ?_
 clear f0 f1 f2 f3 f4 f5 f6 f7 f8 f9
 have S7 := Lib.hid (show Sl.Sep w _ [_, _, Bag.bag ((rs_Op (some ⟨g1, 0, none⟩) ys.length ys) ++ (rs_Store (some ⟨g2, 0, none⟩) zs.length zs)), Bag.bag ([])] from Bag.bag_join S6.out 2 3 (by decide) rfl rfl)
 clear S6
 exact ⟨⟨x.f_Id, some ⟨g1, 0, none⟩, ys.length, ys, x.f_At, x.f_State, some ⟨g2, 0, none⟩, zs.length, zs⟩, rfl, by unfold co_Tx; dsimp only; rw [HCY.out, HCZ.out], Bag.bag_from S7.out 2 rfl, S7.out.old⟩
def GaveQF (w : World) (ts : List X_Tx) (e : Ending) (w' : World) : Prop :=
 ∃ (g : Nat) (ys : List Y_Tx), e = .returned (.agg #[.slice (some ⟨g, 0, none⟩) ys.length ys.length]) ∧ coS_Tx ys = ts ∧ BagOwn w' w.heap.size (rs_Tx (some ⟨g, 0, none⟩) ys.length ys) ∧ Below w.heap.size w w'
set_option maxHeartbeats 4000000 in
theorem copyQueue_full (a : Option Addr) (c : Nat) (ts : List Y_Tx) (hl : ts.length ≤ 1048576) (hf : ∀ t ∈ coS_Tx ts, FitT t) (w : World) (hr : Reads w w.heap.size a (ts.flatMap cl_Tx)) (hx : RowsRd w w.heap.size (rws_Tx ts)) :
  Calls Tryz.prog 86 #[.agg #[.slice a ts.length c]] w (GaveQF w (coS_Tx ts)) := by
 have HCT := Lib.hid (fun w' (h : Below w.heap.size w w') => copyEach_Tx copyTx_V a c ts hl (fun t ht => hf _ (by rw [coS_Tx_eq]; exact List.mem_map.2 ⟨t, ht, rfl⟩)) w' ((hr.below h).more h.size) ((hx.below h).more h.size))
 obtain ⟨N, hN⟩ : ∃ n, n = ts.length := ⟨_, rfl⟩
 rw [← hN] at HCT ⊢
 clear hN hr hx hf hl
 have S1 := Lib.hid (show Sl.Sep w _ [_, _] from L4.push_box (L4.push_box (Sl.Sep.start w) 56 #[.slice a N c] (w.heap.size) (by simp)) 56 #[.slice none 0 0] (w.heap.size + 1) (by simp))
 obtain ⟨wa, hwa⟩ : ∃ w_, w_ = ((w.alloc (.cells #[.slice a N c] 56)).alloc (.cells #[.slice none 0 0] 56)) := ⟨_, rfl⟩
 rw [← hwa] at S1
 go_enter Tryz.func86, Tryz.ntmps86
 go_upto_region 1 with fail
 rw [← hwa]
 clear hwa
 have f0 := Bag.cs1 S1.out 0 rfl
 have f1 := Bag.cs1 S1.out 1 rfl
 go_wp2_with fail
 go_at_call 123
 refine (HCT.out _ S1.out.old).mono ?_
 rintro e w1 ⟨g1, ys, rfl, hcy, ho, hb⟩
 clear f0 f1
 have S2 := Lib.hid (show Sl.Sep w _ [_, _, Bag.bag (rs_Tx (some ⟨g1, 0, none⟩) ys.length ys)] from Bag.push_bag S1.out hb ho)
 clear S1
 clear hb ho
 have HCY := Lib.hid hcy
 clear hcy
 have f0 := Bag.cs1 S2.out 1 rfl
 have z0 := Bag.free_at S2.out 1 rfl 0
 go_wp2_with fail
 clear f0 z0
 have S3 := Lib.hid (show Sl.Sep w _ [_, L4.boxR (w.heap.size + 1) 56 #[.slice (some ⟨g1, 0, none⟩) ys.length ys.length], _] from L5.put_box5 (S2.out) 1 rfl 0 (.slice (some ⟨g1, 0, none⟩) ys.length ys.length))
 clear S2
 have f0 := Bag.cs1 S3.out 1 rfl
 refine bodyPost_ret (v := .agg #[.slice (some ⟨g1, 0, none⟩) ys.length ys.length]) (by simp [results, Tryz.results86, go_sem, *]) rfl ?_
 exact ⟨g1, ys, rfl, HCY.out, Bag.bag_from S3.out 2 rfl, S3.out.old⟩
end Go.Proofs.YthljdhfgphebnaaGreat.L10

namespace Go.Proofs.YthljdhfgphebnaaGreat.V
open Go.ChangeShapes Go.WideShapes Go.ChangeAt Go.RowKit Mem Sl Sv Bag
theorem infoL_IndexDef : ∃ i, Tryz.prog.info? 73 = some i ∧ i.zero = some (.agg #[.string ⟨#[]⟩, .string ⟨#[]⟩]) ∧ i.size = 2 ∧ i.bytes = 32 := Ex.infoOf _ _ _ _ (by kernel_rfl)
def Tests_IndexDef (Fn g : Nat) (f : X_IndexDef → Bool) (xs : List X_IndexDef) (w : World) : Prop :=
 ∀ x ∈ xs, ∀ w', Below w.heap.size w w' → Calls Tryz.prog Fn #[vv_IndexDef x, .pointer (some ⟨g, 0, none⟩)] w' fun e w'' => e = .returned (.bool (f x)) ∧ Below w'.heap.size w' w''
def TestsC_IndexDef (Fn g : Nat) (f : X_IndexDef → Bool) (xs : List X_IndexDef) (w : World) : Prop :=
 ∀ x ∈ xs, ∀ w', w.heap.size ≤ w'.heap.size → w'.heap[g]? = w.heap[g]? → Calls Tryz.prog Fn #[vv_IndexDef x, .pointer (some ⟨g, 0, none⟩)] w' fun e w'' => e = .returned (.bool (f x)) ∧ Below w'.heap.size w' w''
theorem TestsC_IndexDef.below {Fn g : Nat} {f : X_IndexDef → Bool} {xs : List X_IndexDef} {w : World} (h : TestsC_IndexDef Fn g f xs w) (hg : g < w.heap.size) : Tests_IndexDef Fn g f xs w := fun x hx w' hb => h x hx w' hb.size (hb.block g hg)
end Go.Proofs.YthljdhfgphebnaaGreat.V

set_option linter.unusedSimpArgs false
namespace Go.Proofs.YthljdhfgphebnaaGreat.L8
open V L6 L7
open L4 (K isK cmpK)
open L5 (F isR isN string_geq)
open Go.Op (bytesLess)
open Go.ChangeShapes Go.WideShapes Go.ChangeAt Go.RowKit Mem Sl Ex L2 Sv Bag

theorem ixV_map {α β : Type} (co : α → β) (p : β → Bool) (xs : List α) : ixV (fun x => p (co x)) xs = numO ((xs.map co).findIdx? p) := by
 unfold ixV numO
 rw [List.findIdx?_map]
 rfl
set_option maxHeartbeats 2000000 in
theorem findStore1_any (x : LS) (n : ByteArray) (g : Nat) (w : World) (hg : g < w.heap.size) (h0 : w.cell? ⟨g, 0, none⟩ = some (.string n)) :
  Calls Tryz.prog 146 #[vv_Store x, .pointer (some ⟨g, 0, none⟩)] w fun e w' => e = .returned (.bool (hasN n x.con)) ∧ Below w.heap.size w w' := by
 have HK := Lib.hid (fun w' (h : Below w.heap.size w w') => (⟨(h.cell (p := ⟨g, 0, none⟩) hg).trans h0, trivial⟩ : w'.cell? ⟨g, 0, none⟩ = some (.string n) ∧ True).1)
 clear h0
 unfold vv_Store hasN
 dsimp only [LS.con]
 have S1 := Lib.hid (show Sl.Sep w _ [_] from L4.push_box (Sl.Sep.start w) 70 #[.string x.name, .slice x.a x.xs.length x.c, .int .i64 x.auto] (w.heap.size) (by simp))
 obtain ⟨wa, hwa⟩ : ∃ w_, w_ = (w.alloc (.cells #[.string x.name, .slice x.a x.xs.length x.c, .int .i64 x.auto] 70)) := ⟨_, rfl⟩
 rw [← hwa] at S1
 go_enter Tryz.func146, Tryz.ntmps146
 go_upto_region 1 with fail
 rw [← hwa]
 clear hwa
 obtain ⟨f0, f1, f2⟩ := Bag.cs3 S1.out 0 rfl
 have fk := HK.out _ S1.out.old
 go_wp2_with fail
 go_ret
 exact ⟨rfl, S1.out.old⟩
set_option maxHeartbeats 2000000 in
theorem findStore_any (z : Y_Database) (n : ByteArray) (hf : FitD (co_Database z)) (w : World) (hr : RowsRd w w.heap.size (rw_Database z)) :
  Calls Tryz.prog 110 #[vv_Database z, .string n] w fun e w' => e = .returned (.int .i64 (numO (fndS (co_Database z).f_Stores n))) ∧ Below w.heap.size w w' := by
 have HR : Hid (∀ w' (h : Below w.heap.size w w'), Reads w' w.heap.size z.f_Stores_a (z.f_Stores.flatMap cl_Store)) := Lib.hid (fun w' h => (rdS hr).below h)
 have HX : Hid (∀ w' (h : Below w.heap.size w w'), RowsRd w' w'.heap.size (rws_Store z.f_Stores)) := Lib.hid (fun w' h => ((rdX hr).below h).more h.size)
 have HU : Hid (∀ w' (h : Below w.heap.size w w'), Reads w' w.heap.size z.f_Unique_a (z.f_Unique.flatMap cl_IndexDef)) := Lib.hid (fun w' h => (rdU hr).below h)
 have HFD := Lib.hid hf
 have HFDl : z.f_Stores.length ≤ 1048576 := by have h := hf.len; rwa [co_len] at h
 have HFDm : z.f_Unique.length ≤ 1048576 := hf.many
 clear hf hr
 obtain ⟨name, ver, sa, sc, ss, ua, uc, us⟩ := z
 dsimp only [co_Database] at HR HX HU HFD HFDl HFDm
 try unfold vv_Database
 try unfold co_Database
 try dsimp only
 try rw [show coS_IndexDef us = us from rfl]
 rw [show coS_IndexDef us = us from rfl] at HFD
 obtain ⟨N, hN⟩ : ∃ n, n = ss.length := ⟨_, rfl⟩
 obtain ⟨M, hM⟩ : ∃ n, n = us.length := ⟨_, rfl⟩
 rw [← hN] at HFDl ⊢
 rw [← hM] at HFDm ⊢
 have HFDl' : (N : Int) ≤ 1048576 := by omega
 have HFDm' : (M : Int) ≤ 1048576 := by omega
 have HN := Lib.hid hN
 have HM := Lib.hid hM
 clear hN hM
 obtain ⟨R, hR⟩ : ∃ r, numO (fndS (coS_Store ss) n) = r := ⟨_, rfl⟩
 rw [hR]
 have HRR := Lib.hid (show numO ((ss.map LS.con).findIdx? (hasN n)) = R from hR)
 clear hR
 have hmf : ∀ (fn : Fn) (first cap : Array Value) (w : World), (Instr.makeFunc fn first cap).run Tryz.prog w = .ok (.func fn first cap) w := fun _ _ _ _ => rfl
 have S1 := Lib.hid (show Sl.Sep w _ [_, _] from L4.push_box (L4.push_box (Sl.Sep.start w) 33 #[.string name, .int .i64 ver, .slice sa N sc, .slice ua M uc] (w.heap.size) (by simp)) 9 #[.string n] (w.heap.size + 1) (by simp))
 obtain ⟨wa, hwa⟩ : ∃ w_, w_ = ((w.alloc (.cells #[.string name, .int .i64 ver, .slice sa N sc, .slice ua M uc] 33)).alloc (.cells #[.string n] 9)) := ⟨_, rfl⟩
 rw [← hwa] at S1
 go_enter Tryz.func110, Tryz.ntmps110
 go_upto_region 1 with fail
 rw [← hwa]
 clear hwa
 have hg0 := Bag.cell_at S1.out 1 rfl 0 rfl
 have hlt := (S1.out.lies 1 _ rfl (w.heap.size + 1) (by simp [L4.boxR])).2
 skip
 skip
 obtain ⟨f0, f1, f2, f3⟩ := Bag.cs4 S1.out 0 rfl
 have f4 := Bag.cs1 S1.out 1 rfl
 go_wp2_with fail
 go_at_call 145
 have HIX := indexFunc_Store (w.heap.size + 1) (fun x => hasN n x.con) sa sc ss (by have := HN.out; omega) _ ((HR.out _ S1.out.old).more S1.out.old.size) (fun x hx w' hb => findStore1_any x n _ w' (Nat.lt_of_lt_of_le hlt hb.size) ((hb.cell (p := ⟨w.heap.size + 1, 0, none⟩) hlt).trans hg0))
 rw [ixV_map LS.con (hasN n) ss, HRR.out, ← HN.out] at HIX
 refine HIX.mono ?_
 rintro e w3 ⟨rfl, hb⟩
 clear HIX hg0 hlt
 clear f0 f1 f2 f3 f4
 have S2 := Lib.hid (S1.out.keep hb)
 clear S1
 clear hb
 go_wp2_with fail
 go_ret
 exact ⟨rfl, S2.out.old⟩
theorem copyStore_W (x : LS) (hf : FitS (co_Store x)) (w : World) (hr : RowsRd w w.heap.size (rw_Store x)) : Calls Tryz.prog 72 #[vv_Store x] w (Copied_Store w x) :=
 (copyStore_any x hf w hr).mono fun e w' ⟨y, he, hc, hb, ho⟩ => ⟨y, he, hc, hb, ho⟩
def GaveDF (w : World) (d : X_Database) (e : Ending) (w' : World) : Prop :=
 ∃ (g g2 : Nat) (ys : List LS), e = .returned (.agg #[.string d.f_Name, .int .i64 d.f_Version, .slice (some ⟨g, 0, none⟩) ys.length ys.length, .slice (some ⟨g2, 0, none⟩) d.f_Unique.length d.f_Unique.length]) ∧ coS_Store ys = d.f_Stores ∧ BagOwn w' w.heap.size ((row_Store (some ⟨g, 0, none⟩) ys.length ys :: rws_Store ys) ++ [row_IndexDef (some ⟨g2, 0, none⟩) d.f_Unique.length d.f_Unique]) ∧ Below w.heap.size w w'
set_option maxHeartbeats 8000000 in
theorem copyDatabase_full (z : Y_Database) (hf : FitD (co_Database z)) (w : World) (hr : RowsRd w w.heap.size (rw_Database z)) :
  Calls Tryz.prog 38 #[vv_Database z] w (GaveDF w (co_Database z)) := by
 obtain ⟨iX, hi1, hi2, hi3, hi4⟩ := infoL_IndexDef
 have HIX := Lib.hid (And.intro hi1 (And.intro hi2 (And.intro hi3 hi4)))
 clear hi1 hi2 hi3 hi4
 have HR : Hid (∀ w' (h : Below w.heap.size w w'), Reads w' w.heap.size z.f_Stores_a (z.f_Stores.flatMap cl_Store)) := Lib.hid (fun w' h => (rdS hr).below h)
 have HX : Hid (∀ w' (h : Below w.heap.size w w'), RowsRd w' w'.heap.size (rws_Store z.f_Stores)) := Lib.hid (fun w' h => ((rdX hr).below h).more h.size)
 have HU : Hid (∀ w' (h : Below w.heap.size w w'), Reads w' w.heap.size z.f_Unique_a (z.f_Unique.flatMap cl_IndexDef)) := Lib.hid (fun w' h => (rdU hr).below h)
 have HFD := Lib.hid hf
 have HFDl : z.f_Stores.length ≤ 1048576 := by have h := hf.len; rwa [co_len] at h
 have HFDm : z.f_Unique.length ≤ 1048576 := hf.many
 clear hf hr
 obtain ⟨name, ver, sa, sc, ss, ua, uc, us⟩ := z
 dsimp only [co_Database] at HR HX HU HFD HFDl HFDm
 try unfold vv_Database
 try unfold co_Database
 try dsimp only
 try rw [show coS_IndexDef us = us from rfl]
 rw [show coS_IndexDef us = us from rfl] at HFD
 obtain ⟨N, hN⟩ : ∃ n, n = ss.length := ⟨_, rfl⟩
 obtain ⟨M, hM⟩ : ∃ n, n = us.length := ⟨_, rfl⟩
 rw [← hN] at HFDl ⊢
 rw [← hM] at HFDm ⊢
 have HFDl' : (N : Int) ≤ 1048576 := by omega
 have HFDm' : (M : Int) ≤ 1048576 := by omega
 have HN := Lib.hid hN
 have HM := Lib.hid hM
 clear hN hM
 have HCE := Lib.hid (fun w' (h : Below w.heap.size w w') => copyEach_Store copyStore_W sa sc ss (by rw [← HN.out]; exact HFDl) (fun s hs => HFD.out.stores _ (by show _ ∈ coS_Store ss; rw [coS_Store_eq]; exact List.mem_map.2 ⟨s, hs, rfl⟩)) w' ((HR.out w' h).more h.size) (HX.out w' h))
 rw [← HN.out] at HCE
 obtain ⟨Y, hZ⟩ : ∃ Z, Z = (madeCells (Value.agg #[.string ⟨#[]⟩, .string ⟨#[]⟩]).cells (M * 2)).toList := ⟨_, rfl⟩
 have HLY := Lib.hid (show Y.length = M * 2 by rw [hZ]; simp [madeCells])
 have HDY := Lib.hid hZ
 clear hZ
 have S1 := Lib.hid (show Sl.Sep w _ [_, _] from L4.push_box (L4.push_box (Sl.Sep.start w) 33 #[.string name, .int .i64 ver, .slice sa N sc, .slice ua M uc] (w.heap.size) (by simp)) 33 #[.string ⟨#[]⟩, .int .i64 0, .slice none 0 0, .slice none 0 0] (w.heap.size + 1) (by simp))
 obtain ⟨wa, hwa⟩ : ∃ w_, w_ = ((w.alloc (.cells #[.string name, .int .i64 ver, .slice sa N sc, .slice ua M uc] 33)).alloc (.cells #[.string ⟨#[]⟩, .int .i64 0, .slice none 0 0, .slice none 0 0] 33)) := ⟨_, rfl⟩
 rw [← hwa] at S1
 go_enter Tryz.func38, Tryz.ntmps38
 go_upto_region 1 with fail
 rw [← hwa]
 clear hwa
 obtain ⟨f0, f1, f2, f3⟩ := Bag.cs4 S1.out 0 rfl
 obtain ⟨f4, f5, f6, f7⟩ := Bag.cs4 S1.out 1 rfl
 go_upto_region 2 with (at_make; refine Run.wpList_make_s S1.out rfl _ _ 31 rfl 73 iX (.agg #[.string ⟨#[]⟩, .string ⟨#[]⟩]) 2 Tryz.underlying31 HIX.out.1 HIX.out.2.1 HIX.out.2.2.1 _ _ M rfl rfl (by rw [HIX.out.2.2.2]; omega) (by unfold maxLen; omega) ?_; intro w1 S')
 clear f0 f1 f2 f3 f4 f5 f6 f7
 obtain ⟨g1, hg⟩ : ∃ g', g' = wa.heap.size := ⟨_, rfl⟩
 rw [← hg] at S' ⊢
 clear hg
 have S2 := Lib.hid (show Sl.Sep w _ [L4.boxR w.heap.size 33 #[.string name, .int .i64 ver, .slice sa N sc, .slice ua M uc], L4.boxR (w.heap.size + 1) 33 #[.string ⟨#[]⟩, .int .i64 0, .slice none 0 0, .slice none 0 0], Sv.ownV 73 2 (some ⟨g1, 0, none⟩) M M Y] from (by have h := S'; rw [← HDY.out] at h; exact h))
 clear S1
 clear S'
 have HUL := Lib.hid (show (us.flatMap cl_IndexDef).length = M * 2 by rw [flat_len cl_IndexDef_len, HM.out])
 obtain ⟨f0, f1, f2, f3⟩ := Bag.cs4 S2.out 0 rfl
 obtain ⟨f4, f5, f6, f7⟩ := Bag.cs4 S2.out 1 rfl
 have hcp := fun ty => Run.run_copy_s (P := Tryz.prog) S2.out 2 rfl 31 31 ty iX Tryz.underlying31 HIX.out.1 HIX.out.2.2.1 0 M M M uc ua (us.flatMap cl_IndexDef) (by rw [HUL.out, show Nat.min M M = M from Nat.min_self _]) w.heap.size (HU.out _ S2.out.old) (by rw [HUL.out, HLY.out]; omega) (one_flat cl_IndexDef_one _)
 obtain ⟨w2, hw⟩ : ∃ u, u = World.setCells w1 g1 0 (us.flatMap cl_IndexDef) := ⟨_, rfl⟩
 rw [← hw] at hcp
 have HW := Lib.hid hw
 clear hw
 go_upto_region 3 with fail
 clear f0 f1 f2 f3 f4 f5 f6 f7
 have S3 := Lib.hid (show Sl.Sep w _ [_, _, Sv.ownV 73 2 (some ⟨g1, 0, none⟩) M M (us.flatMap cl_IndexDef)] from (by have h := Run.put_run S2.out 2 rfl 0 (us.flatMap cl_IndexDef) (by rw [HUL.out, HLY.out]; omega); rw [← HW.out, Run.over_all _ _ (by rw [HUL.out, HLY.out])] at h; exact h))
 clear S2
 clear hcp HW
 refine wp_region_held_drew (S := (fun w' => (w'.cell? ⟨w.heap.size, 0, none⟩ = some (.string name) ∧ w'.cell? ⟨w.heap.size, 1, none⟩ = some (.int .i64 ver) ∧ w'.cell? ⟨w.heap.size, 2, none⟩ = some (.slice sa N sc) ∧ w'.cell? ⟨w.heap.size, 3, none⟩ = some (.slice ua M uc)))) (by kernel_rfl) (Bag.cs4 (Bag.drew1 S3.out) 0 rfl) (fun hS => ?_)
 have S4 := Lib.hid (Bag.drew1 S3.out)
 clear S3
 generalize World.drew _ = w3 at hS S4 ⊢
 refine tk 0 rfl ?_
 try simp only [zp0, zp1, zp2, zp3, zp4]
 refine tk 1 rfl ?_
 try simp only [zp0, zp1, zp2, zp3, zp4]
 refine tk 2 rfl ?_
 try simp only [zp0, zp1, zp2, zp3, zp4]
 refine tk 3 rfl ?_
 try simp only [zp0, zp1, zp2, zp3, zp4]
 refine tk 4 rfl ?_
 try simp only [zp0, zp1, zp2, zp3, zp4]
 refine tk 5 rfl ?_
 try simp only [zp0, zp1, zp2, zp3, zp4]
 refine tk 7 rfl ?_
 try simp only [zp0, zp1, zp2, zp3, zp4]
 refine Reg.one_op (i := 6) rfl (by kernel_rfl) (fun K hK => ?_)
 go_simp
 go_at_call 71
 refine (HCE.out _ S4.out.old).mono ?_
 rintro e w4 ⟨gS, ys, rfl, hcy, ho, hb⟩
 have S5 := Lib.hid (show Sl.Sep w _ [_, _, _, Bag.bag (rs_Store (some ⟨gS, 0, none⟩) ys.length ys)] from Bag.push_bag S4.out hb ho)
 clear S4
 clear hb ho
 have HCY := Lib.hid hcy
 clear hcy
 go_wp2_with fail
 refine hK.out _ _ (Bag.cs4 S5.out 0 rfl) (fun hS => ?_)
 clear hK K
 try simp only [zp0, zp1, zp2, zp3, zp4]
 refine tk 8 rfl ?_
 try simp only [zp0, zp1, zp2, zp3, zp4]
 refine Reg.one_op (i := 9) rfl (by kernel_rfl) (fun K hK => ?_)
 obtain ⟨f0, f1, f2, f3⟩ := Bag.cs4 S5.out 1 rfl
 obtain ⟨z0, z1, z2, z3⟩ := Bag.fs4 S5.out 1 rfl
 go_simp
 clear f0 f1 f2 f3 z0 z1 z2 z3
 have S6 := Lib.hid (show Sl.Sep w _ [_, L4.boxR (w.heap.size + 1) 33 #[.string name, .int .i64 ver, .slice (some ⟨gS, 0, none⟩) ys.length ys.length, .slice (some ⟨g1, 0, none⟩) M M], _, _] from L5.put_box5 (L5.put_box5 (L5.put_box5 (L5.put_box5 (S5.out) 1 rfl 0 (.string name)) 1 rfl 1 (.int .i64 ver)) 1 rfl 2 (.slice (some ⟨gS, 0, none⟩) ys.length ys.length)) 1 rfl 3 (.slice (some ⟨g1, 0, none⟩) M M))
 clear S5
 refine hK.out _ _ (Bag.cs4 S6.out 0 rfl) (fun hS => ?_)
 clear hK K
 try simp only [zp0, zp1, zp2, zp3, zp4]
 refine wpAnyH_done (by kernel_rfl) ?_ _
 obtain ⟨f0, f1, f2, f3⟩ := Bag.cs4 S6.out 0 rfl
 obtain ⟨f4, f5, f6, f7⟩ := Bag.cs4 S6.out 1 rfl
 go_wp2_with fail
 refine bodyPost_ret (v := .agg #[.string name, .int .i64 ver, .slice (some ⟨gS, 0, none⟩) ys.length ys.length, .slice (some ⟨g1, 0, none⟩) M M]) (by simp [results, Tryz.results38, go_sem, *]) rfl ?_
 clear f0 f1 f2 f3 f4 f5 f6 f7
 have S91 := Lib.hid (Bag.bag_of_one S6.out 2 (r := row_IndexDef (some ⟨g1, 0, none⟩) M us) (by unfold RowS.res row_IndexDef; dsimp only; rw [HM.out]; rfl))
 have S93 := Lib.hid (Bag.bag_join S91.out 3 2 (by decide) rfl rfl)
 have hb := Bag.bag_from S93.out 3 rfl
 have hm := HM.out
 subst hm
 exact ⟨gS, g1, ys, rfl, HCY.out, hb, S93.out.old⟩
end Go.Proofs.YthljdhfgphebnaaGreat.L8

namespace Go.Proofs.YthljdhfgphebnaaGreat.V
open Go.ChangeShapes Go.WideShapes Go.ChangeAt Go.RowKit Mem Sl Sv Bag
open L5 (markT)
structure X_String where
 f_S : ByteArray
structure Y_StringZ where
 a : Option Addr
 c : Nat
 xs : List X_String
end Go.Proofs.YthljdhfgphebnaaGreat.V

namespace Go.Proofs
open Go.Shelf
def Tryz.lays190_ren : Go.Shelf.Ren := ⟨fun | 190 => 129 | 125 => 159 | 258 => 158 | 128 => 187 | 129 => 188 | 302 => 178 | 303 => 179 | 304 => 180 | 305 => 181 | 306 => 182 | 307 => 183 | 308 => 184 | 309 => 185 | 310 => 186 | 333 => 202 | 329 => 203 | 330 => 204 | 334 => 205 | 335 => 206 | 336 => 207 | 344 => 212 | n => n, fun | 31 => 90 | 9 => 9 | 3 => 3 | 46 => 188 | 0 => 0 | 51 => 229 | 53 => 231 | 4 => 4 | 183 => 222 | 182 => 221 | 131 => 147 | 5 => 5 | 218 => 245 | 222 => 249 | 228 => 256 | 229 => 257 | n => n, fun | n => n⟩
theorem Tryz.lays190 : Go.Proofs.Lays.n190 Tryz.prog Tryz.lays190_ren := {
 mixed := by kernel_rfl
 f125 := Tryz.func159.trans (congrArg some (by kernel_rfl))
 f128 := Tryz.func187.trans (congrArg some (by kernel_rfl))
 f129 := Tryz.func188.trans (congrArg some (by kernel_rfl))
 f190 := Tryz.func129.trans (congrArg some (by kernel_rfl))
 f258 := Tryz.func158.trans (congrArg some (by kernel_rfl))
 f302 := Tryz.func178.trans (congrArg some (by kernel_rfl))
 f303 := Tryz.func179.trans (congrArg some (by kernel_rfl))
 f304 := Tryz.func180.trans (congrArg some (by kernel_rfl))
 f305 := Tryz.func181.trans (congrArg some (by kernel_rfl))
 f306 := Tryz.func182.trans (congrArg some (by kernel_rfl))
 f307 := Tryz.func183.trans (congrArg some (by kernel_rfl))
 f308 := Tryz.func184.trans (congrArg some (by kernel_rfl))
 f309 := Tryz.func185.trans (congrArg some (by kernel_rfl))
 f310 := Tryz.func186.trans (congrArg some (by kernel_rfl))
 f329 := Tryz.func203.trans (congrArg some (by kernel_rfl))
 f330 := Tryz.func204.trans (congrArg some (by kernel_rfl))
 f333 := Tryz.func202.trans (congrArg some (by kernel_rfl))
 f334 := Tryz.func205.trans (congrArg some (by kernel_rfl))
 f335 := Tryz.func206.trans (congrArg some (by kernel_rfl))
 f336 := Tryz.func207.trans (congrArg some (by kernel_rfl))
 f344 := Tryz.func212.trans (congrArg some (by kernel_rfl))
 t0 := Tryz.underlying0
 a0 := Tryz.isAgg0
 z0 := Tryz.sizeOf0
 v0 := Tryz.zeroValue0
 t3 := Tryz.underlying3
 a3 := Tryz.isAgg3
 z3 := Tryz.sizeOf3
 v3 := Tryz.zeroValue3
 t4 := Tryz.underlying4
 a4 := Tryz.isAgg4
 z4 := Tryz.sizeOf4
 v4 := Tryz.zeroValue4
 t5 := Tryz.underlying5
 a5 := Tryz.isAgg5
 z5 := Tryz.sizeOf5
 v5 := Tryz.zeroValue5
 t9 := Tryz.underlying9
 a9 := Tryz.isAgg9
 z9 := Tryz.sizeOf9
 v9 := Tryz.zeroValue9
 t31 := Tryz.underlying90
 a31 := Tryz.isAgg90
 z31 := Tryz.sizeOf90
 v31 := Tryz.zeroValue90
 t46 := Tryz.underlying188
 a46 := Tryz.isAgg188
 z46 := Tryz.sizeOf188
 v46 := Tryz.zeroValue188
 t51 := Tryz.underlying229
 a51 := Tryz.isAgg229
 z51 := Tryz.sizeOf229
 v51 := Tryz.zeroValue229
 t53 := Tryz.underlying231
 a53 := Tryz.isAgg231
 z53 := Tryz.sizeOf231
 v53 := Tryz.zeroValue231
 t131 := Tryz.underlying147
 a131 := Tryz.isAgg147
 z131 := Tryz.sizeOf147
 v131 := Tryz.zeroValue147
 t182 := Tryz.underlying221
 a182 := Tryz.isAgg221
 z182 := Tryz.sizeOf221
 v182 := Tryz.zeroValue221
 t183 := Tryz.underlying222
 a183 := Tryz.isAgg222
 z183 := Tryz.sizeOf222
 v183 := Tryz.zeroValue222
 t218 := Tryz.underlying245
 a218 := Tryz.isAgg245
 z218 := Tryz.sizeOf245
 v218 := Tryz.zeroValue245
 t222 := Tryz.underlying249
 a222 := Tryz.isAgg249
 z222 := Tryz.sizeOf249
 v222 := Tryz.zeroValue249
 t228 := Tryz.underlying256
 a228 := Tryz.isAgg256
 z228 := Tryz.sizeOf256
 v228 := Tryz.zeroValue256
 t229 := Tryz.underlying257
 a229 := Tryz.isAgg257
 z229 := Tryz.sizeOf257
 v229 := Tryz.zeroValue257 }
open Go.Sort Go.RowKit in
theorem Tryz.slices_Sort_string (blk off cap : Nat) (ss : List (List UInt8)) (w : World) (hH : Holds encStr w blk off ss.toArray) (hblk : blk < w.heap.size) (hsz : ss.length < 4611686018427387904) :
  Calls Tryz.prog 129 #[.slice (some ⟨blk, off, none⟩) ss.length cap] w fun e w' =>
   e = .returned (.tuple #[]) ∧ ∃ n os, w' = grow (putRow encStr (Sort.ahead w n) blk off (ss.mergeSort fun x y => decide (x ≤ y)).toArray) os := Any.slices_Sort_string Tryz.lays190 blk off cap ss w hH hblk hsz
def Tryz.lays194_ren : Go.Shelf.Ren := ⟨fun | 194 => 130 | n => n, fun | 31 => 90 | 9 => 9 | 3 => 3 | 4 => 4 | 0 => 0 | n => n, fun | n => n⟩
theorem Tryz.lays194 : Go.Proofs.Lays.n194 Tryz.prog Tryz.lays194_ren := {
 mixed := by kernel_rfl
 f194 := Tryz.func130.trans (congrArg some (by kernel_rfl))
 t0 := Tryz.underlying0
 a0 := Tryz.isAgg0
 z0 := Tryz.sizeOf0
 v0 := Tryz.zeroValue0
 t3 := Tryz.underlying3
 a3 := Tryz.isAgg3
 z3 := Tryz.sizeOf3
 v3 := Tryz.zeroValue3
 t4 := Tryz.underlying4
 a4 := Tryz.isAgg4
 z4 := Tryz.sizeOf4
 v4 := Tryz.zeroValue4
 t9 := Tryz.underlying9
 a9 := Tryz.isAgg9
 z9 := Tryz.sizeOf9
 v9 := Tryz.zeroValue9
 t31 := Tryz.underlying90
 a31 := Tryz.isAgg90
 z31 := Tryz.sizeOf90
 v31 := Tryz.zeroValue90 }
open Go.RowKit Go.Lib Go.Sort in
theorem Tryz.slices_Compact_string (blk off cap : Nat) (zs : List (List UInt8)) (w : World) (hH : Holds encStr w blk off zs.toArray) (hsz : zs.length ≤ 9223372036854775807) (hcap : zs.length ≤ cap) :
  Calls Tryz.prog 130 #[.slice (some ⟨blk, off, none⟩) zs.length cap] w fun e w' => e = .returned (.slice (some ⟨blk, off, none⟩) (Lib.compact zs).length cap) ∧ ∃ q, w' = putRow encStr (Sort.ahead w q) blk off (Lib.compact zs ++ List.replicate (zs.length - (Lib.compact zs).length) []).toArray := Any.slices_Compact_string Tryz.lays194 blk off cap zs w hH hsz hcap
open Go.RowKit Go.Lib Go.Sort in
theorem Tryz.slices_Compact_string_empty (a : Option Addr) (cap : Nat) (w : World) :
  Calls Tryz.prog 130 #[.slice a 0 cap] w fun e w' => e = .returned (.slice a 0 cap) ∧ w' = w := Any.slices_Compact_string_empty Tryz.lays194 a cap w
open Go.RowKit Go.Sort in
theorem Tryz.slices_Sort_string_none (p : Option Addr) (cap : Nat) (w : World) :
  Calls Tryz.prog 129 #[.slice p 0 cap] w fun e w' => e = .returned (.tuple #[]) ∧ w' = w := Any.slices_Sort_string_none Tryz.lays190 p cap w
end Go.Proofs

namespace Go.Proofs.YthljdhfgphebnaaGreat.L9
open V L6
open L4 (K isK cmpK)
open L5 (F isR isN string_geq)
open Go.Op (bytesLess)
open Go.ChangeShapes Go.WideShapes Go.ChangeAt Go.RowKit Mem Sl Ex L2 Sv Bag
open Go.Sort
theorem left_scope {w w1 : World} {g cap n nn q : Nat} {os : Array Obj} {ss : List L9s.T} (hown : w1.ownsRow w.heap.size 9 1 (.slice (some ⟨g, 0, none⟩) n cap) n (ss.map encStr)) (hbel : Below w.heap.size w w1) (hbg : w.heap.size ≤ g) (hlen : ss.length = n) :
  GaveNS w (L9s.scopeN ss) (.returned (.slice (some ⟨g, 0, none⟩) (Lib.compact (ss.mergeSort fun x y => decide (x ≤ y))).length cap)) (putRow encStr (Sort.ahead (grow (putRow encStr (Sort.ahead w1 nn) g 0 (ss.mergeSort fun x y => decide (x ≤ y)).toArray) os) q) g 0 ((Lib.compact (ss.mergeSort fun x y => decide (x ≤ y))) ++ List.replicate (n - (Lib.compact (ss.mergeSort fun x y => decide (x ≤ y))).length) []).toArray) := by
 have hl2 : (ss.mergeSort fun x y => decide (x ≤ y)).length = ss.length := List.length_mergeSort ss
 have hle := Lib.compact_length_le (ss.mergeSort fun x y => decide (x ≤ y))
 subst hlen
 rcases hown.2 with ⟨h0, _⟩ | ⟨g', cap', cur, hv, hbase, hb, h1, h2, h3, h4⟩
 ·
  cases h0
 cases hv
 have hs := ownsRow_sorted (n := nn) (os := os) (ts := (ss.mergeSort fun x y => decide (x ≤ y))) hl2 hbase hb h1 h2 h3
 have hc := Lib.ownsRow_putRow (q := q) (k := (Lib.compact (ss.mergeSort fun x y => decide (x ≤ y))).length) (ys := (Lib.compact (ss.mergeSort fun x y => decide (x ≤ y))) ++ List.replicate (ss.length - (Lib.compact (ss.mergeSort fun x y => decide (x ≤ y))).length) []) hs (by simp; omega) (by omega)
 rw [List.take_left] at hc
 rw [← L9s.compact_sort]
 exact ⟨some ⟨g, 0, none⟩, cap, rfl, Bag.BagOwn.one (r := rowT (some ⟨g, 0, none⟩) cap (Lib.compact (ss.mergeSort fun x y => decide (x ≤ y)))) hc, Lib.below_putRow (hbel.grown (grownBy_sorted _) hbel.size (fun j hj => by cases hj; exact hbase)) hbg⟩
theorem holds_twice {w1 : World} {g nn : Nat} {os : Array Obj} {ss : List L9s.T} (hg : g < w1.heap.size) (hH : Holds encStr w1 g 0 ss.toArray) : Holds encStr (grow (putRow encStr (Sort.ahead w1 nn) g 0 (ss.mergeSort fun x y => decide (x ≤ y)).toArray) os) g 0 (ss.mergeSort fun x y => decide (x ≤ y)).toArray :=
 holds_grow encStr _ os g 0 _ (by simpa [putRow, mapBlock, Sort.ahead] using hg) (holds_putRow encStr _ g 0 _ _ (holds_ahead encStr w1 nn g 0 _ hH) (by simp))
theorem fsum_le {α : Type} (f : α → Nat) (M : Nat) : ∀ xs : List α, (∀ x ∈ xs, f x ≤ M) → fsum f xs ≤ xs.length * M
 | [], _ => by rw [fsum_nil]; exact Nat.zero_le _
 | x :: xs, h => by
  have h1 := fsum_le f M xs (fun y hy => h y (List.mem_cons_of_mem _ hy))
  have h2 := h x (List.mem_cons_self ..)
  rw [fsum_cons, List.length_cons, Nat.add_mul, Nat.one_mul]
  omega
set_option maxHeartbeats 8000000 in
theorem scopeOf_any (a : Option Addr) (c : Nat) (os : List Y_Op) (hl : os.length ≤ 1048576) (hf : ∀ o ∈ coS_Op os, FitO o) (w : World) (hr : Reads w w.heap.size a (os.flatMap cl_Op)) (hx : RowsRd w w.heap.size (rws_Op os)) :
  Calls Tryz.prog 89 #[.slice a os.length c] w (GaveNS w (L9s.scopeN (nmO (coS_Op os)))) := by
 have HR := Lib.hid (fun w' (h : Below w.heap.size w w') => hr.below h)
 have HX := Lib.hid (fun w' (h : Below w.heap.size w w') => (hx.below h).more h.size)
 have HF := Lib.hid hf
 obtain ⟨N, hN⟩ : ∃ n, n = os.length := ⟨_, rfl⟩
 rw [← hN] at hl ⊢
 have hl' : (N : Int) ≤ 1048576 := by omega
 have HN := Lib.hid hN
 clear hN hr hx hf
 obtain ⟨iT, hi1, hi2, hi3, hi4⟩ := infoT
 have HIT := Lib.hid (And.intro hi1 (And.intro hi2 (And.intro hi3 hi4)))
 clear hi1 hi2 hi3 hi4
 have HSL := Lib.hid (show (coS_Op os).length = N from by rw [coS_len, HN.out])
 obtain ⟨ss, hss⟩ : ∃ s, nmO (coS_Op os) = s := ⟨_, rfl⟩
 rw [hss]
 have HSS := Lib.hid hss
 clear hss
 have HNL := Lib.hid (show ss.length = N from by rw [← HSS.out, nmO_len, HSL.out])
 have S1 := Lib.hid (show Sl.Sep w w [] from Sl.Sep.start w)
 go_enter Tryz.func89, Tryz.ntmps89
 go_upto_region 2 with fail
 have S2 := Lib.hid (show Sl.Sep w _ [Sv.ownV 9 1 (some ⟨w.heap.size, 0, none⟩) 0 0 (cT [])] from Sv.push_own S1.out ((Below.refl _ _).alloc (Nat.le_refl _) _) (OwnV.madeAt w 9 1 0 w.heap.size #[] rfl (Nat.le_refl _) rfl (by decide)))
 clear S1
 obtain ⟨g1, hg⟩ : ∃ g', g' = w.heap.size := ⟨_, rfl⟩
 rw [← hg] at S2 ⊢
 clear hg
 generalize w.alloc (.cells #[] 9) = w1 at S2 ⊢
 go_wp2_with fail
 go_loopw [3, 9] (fun v i wr => ∃ (k : Nat) (A : Option Addr) (C : Nat), k ≤ N ∧ i = .int .i64 k ∧ v = .slice A k C ∧ Hid (Sl.Sep w wr [Sv.ownV 9 1 A C k (cT (ss.take k))])) (fun _ i _ => N - (intOf i).toNat)
 case atStart => exact ⟨0, _, _, Nat.zero_le _, rfl, rfl, S2.out⟩
 case round =>
  obtain ⟨k, A, C, hk, rfl, rfl, hrel⟩ := hrel
  have S40 := Lib.hid hrel.out
  clear hrel S2
  by_cases hlt : (k : Int) < (N : Int)
  ·
   skip
   have hkl : k < os.length := by have := HN.out; omega
   obtain ⟨x, hx⟩ : ∃ x, os[k]? = some x := ⟨_, List.getElem?_eq_getElem hkl⟩
   obtain ⟨oad, e'⟩ := el_some cl_Op_len (by decide) (HR.out _ S40.out.old) hkl
   subst e'
   have hro := fun w' (h : Below w.heap.size w w') => rdOs (HX.out w' h) hx
   have hrr := fun w' (h : Below w.heap.size w w') => rdO (rdOs (HX.out w' h) hx)
   obtain ⟨kd, st, ⟨kk, kn, kt⟩, ⟨ra, rc, rl⟩, fd⟩ := x
   have HK := Lib.hid (fun w' (h : Below w.heap.size w w') => el7 cl_Op_len (HR.out _ h) hx rfl)
   dsimp only at HK hrr
   have HRO := Lib.hid hro
   have HRR := Lib.hid hrr
   have HC := Lib.hid (show (coS_Op os)[k]? = some (⟨kd, st, ⟨kk, kn, kt⟩, rl, fd⟩ : X_Op) from coS_at hx)
   have HFO := Lib.hid (HF.out _ (List.mem_of_getElem? HC.out))
   clear hx hrr hro
   have HT := Lib.hid (show cT (ss.take (k + 1)) = cT (ss.take k) ++ [.string st] from by rw [← HSS.out, nm_take HC.out, cT_append, ← cT_one])
   have HTL := Lib.hid (show (cT (ss.take k)).length = k from by rw [cT_length, List.length_take, HNL.out, Nat.min_eq_left hk])
   obtain ⟨f0, f1, f2, f3, f4, f5, f6⟩ := HK.out _ S40.out.old
   go_upto_region 5 with fail
   clear f0 f1 f2 f3 f4 f5 f6
   have S41 := Lib.hid (show Sl.Sep w _ [_, _] from L4.push_box S40.out 133 #[.int .i64 kd, .string st, .int .i64 kk, .int .i64 kn, .string kt, .slice ra rl.length rc, .string fd] wr.heap.size rfl)
   clear S40
   obtain ⟨g2, hg⟩ : ∃ g', g' = wr.heap.size := ⟨_, rfl⟩
   rw [← hg] at S41 ⊢
   clear hg
   generalize wr.alloc (.cells #[.int .i64 kd, .string st, .int .i64 kk, .int .i64 kn, .string kt, .slice ra rl.length rc, .string fd] 133) = w2 at S41 ⊢
   obtain ⟨f0, f1, f2, f3, f4, f5, f6⟩ := Bag.cs7 S41.out 1 rfl
   obtain ⟨f7, f8, f9, f10, f11, f12, f13⟩ := HK.out _ S41.out.old
   have S42 := Lib.hid (show Sl.Sep w _ [_, L4.boxR g2 133 #[.int .i64 kd, .string st, .int .i64 kk, .int .i64 kn, .string kt, .slice ra rl.length rc, .string fd], Sv.ownV 9 1 (some ⟨w2.heap.size, 0, none⟩) 1 1 ([.string st])] from Sv.push_own S41.out ((Below.refl _ _).alloc (Nat.le_refl _) _) (OwnV.madeAt w2 9 1 1 w2.heap.size #[.string st] rfl (Nat.le_refl _) rfl (by decide)))
   clear S41
   go_wp2_with (at_builtin; refine L5.wpList_append_v S42.out 0 rfl rfl _ _ 90 (by rfl) iT (.string ⟨#[]⟩) 16 Tryz.underlying90 HIT.out.1 HIT.out.2.1 HIT.out.2.2.1 HIT.out.2.2.2 rfl (by omega) _ (by rfl) rfl _ _ 1 _ _ ([.string st]) (by rfl) rfl (Sv.own_at S42.out 2 rfl).reads rfl (one_str1 _) (by unfold maxLen; omega) (by omega) ?_; intro a3' c3' w3 hA)
   have S43 := Lib.hid (show Sl.Sep w _ [Sv.ownV 9 1 a3' c3' (k + 1) (cT (ss.take k) ++ ([.string st])), _, _] from hA)
   clear S42
   clear hA
   clear f0 f1 f2 f3 f4 f5 f6 f7 f8 f9 f10 f11 f12 f13
   have S44 := Lib.hid (show Sl.Sep w _ [Sv.ownV 9 1 a3' c3' (k + 1) (cT (ss.take (k + 1))), _, _] from (by rw [HT.out]; exact S43.out))
   clear S43
   have S45 := Lib.hid (show Sl.Sep w _ [_] from Bag.take S44.out [0] (by rfl) (by decide))
   clear S44
   go_roundw
   case rel => exact ⟨k + 1, a3', c3', by omega, by go_num, rfl, S45.out⟩
   case measure => simp [intOf]; omega
  ·
   skip
   obtain rfl : k = N := by omega
   have HTA := Lib.hid (show ss.take k = ss from List.take_of_length_le (by rw [HNL.out]; exact Nat.le_refl _))
   have S41 := Lib.hid (show Sl.Sep w _ [Sv.ownV 9 1 A C k (cT ss)] from (by have h := S40.out; rw [HTA.out] at h; exact h))
   clear S40
   have HOW := (Sv.own_from S41.out 0 rfl)
   have HOLD := Lib.hid S41.out.old
   clear S41
   rcases HOW.form with ⟨rfl, hk0, hx0, rfl⟩ | ⟨g, rfl, hbg, hgl, hkC, hCm⟩
   ·
    subst hk0
    have hsn : ss = [] := List.eq_nil_of_length_eq_zero HNL.out
    subst hsn
    have HOW2 := Lib.hid HOW
    clear HOW
    go_wp2_with (first | (go_at_call 129; refine (Tryz.slices_Sort_string_none none 0 _).mono ?_; rintro e w2 ⟨rfl, rfl⟩) | (go_at_call 130; refine (Tryz.slices_Compact_string_empty none 0 _).mono ?_; rintro e w3 ⟨rfl, rfl⟩))
    go_ret
    exact ⟨none, 0, rfl, Bag.BagOwn.one (r := rowT none 0 []) HOW2.out, HOLD.out⟩
   ·
    skip
    have hown : World.ownsRow _ w.heap.size 9 1 (.slice (some ⟨g, 0, none⟩) k C) k (ss.map encStr) := HOW
    obtain ⟨g', cap', hv, -, -, -, -, -, hH⟩ := Lib.holds_of_ownsRow hown (by intro h; cases h)
    cases hv
    have hsort := Tryz.slices_Sort_string g 0 C ss _ hH hgl (by have := HNL.out; omega)
    rw [HNL.out] at hsort
    have HOW2 := Lib.hid (And.intro hown (And.intro hbg (And.intro hgl hH)))
    clear hown hH HOW hbg hgl
    replace hsort := Lib.hid hsort
    go_wp2_with fail
    go_at_call 129
    refine hsort.out.mono ?_
    rintro e w2 ⟨rfl, nn, os', rfl⟩
    clear hsort
    have hl2 : (ss.mergeSort fun x y => decide (x ≤ y)).length = k := by rw [List.length_mergeSort]; exact HNL.out
    have hcomp := Tryz.slices_Compact_string g 0 C (ss.mergeSort fun x y => decide (x ≤ y)) _ (holds_twice (nn := nn) (os := os') HOW2.out.2.2.1 HOW2.out.2.2.2) (by omega) (by omega)
    rw [hl2] at hcomp
    replace hcomp := Lib.hid hcomp
    go_wp2_with fail
    go_at_call 130
    refine hcomp.out.mono ?_
    rintro e w3 ⟨rfl, q, rfl⟩
    clear hcomp
    go_wp2_with fail
    go_ret
    exact left_scope HOW2.out.1 HOLD.out HOW2.out.2.1 HNL.out
end Go.Proofs.YthljdhfgphebnaaGreat.L9

namespace Go.Proofs.YthljdhfgphebnaaGreat.Run
open Go.ChangeShapes Go.WideShapes Go.ChangeAt Go.RowKit Mem Sl Sv Bag
theorem sep_join {W w w' : World} {rs qs : List Res} (h : Sl.Sep W w rs) (k : Sl.Sep w w' qs) : Sl.Sep W w' (rs ++ qs) := by
 have hk := h.keep k.old
 have hsz := h.old.size
 have hcase : ∀ (i : Nat) (r : Res), (rs ++ qs)[i]? = some r → (i < rs.length ∧ rs[i]? = some r) ∨ (rs.length ≤ i ∧ qs[i - rs.length]? = some r) := fun i r hi => by
  rcases Nat.lt_or_ge i rs.length with hl | hl
  ·
   exact .inl ⟨hl, by rwa [List.getElem?_append_left hl] at hi⟩
  ·
   exact .inr ⟨hl, by rwa [List.getElem?_append_right hl] at hi⟩
 refine ⟨hk.old, fun i r hi => ?_, fun i r hi b hb => ?_, fun i j r s hi hj hne b hb hb' => ?_⟩
 ·
  rcases hcase i r hi with ⟨_, h1⟩ | ⟨_, h1⟩
  ·
   exact hk.is i r h1
  ·
   exact k.is _ r h1
 ·
  rcases hcase i r hi with ⟨_, h1⟩ | ⟨_, h1⟩
  ·
   exact hk.lies i r h1 b hb
  ·
   have h2 := k.lies _ r h1 b hb
   exact ⟨by omega, h2.2⟩
 ·
  rcases hcase i r hi with ⟨l1, h1⟩ | ⟨l1, h1⟩ <;> rcases hcase j s hj with ⟨l2, h2⟩ | ⟨l2, h2⟩
  ·
   exact h.apart i j r s h1 h2 hne b hb hb'
  ·
   have h3 := (h.lies i r h1 b hb).2
   have h4 := (k.lies _ s h2 b hb').1
   omega
  ·
   have h3 := (k.lies _ r h1 b hb).1
   have h4 := (h.lies j s h2 b hb').2
   omega
  ·
   exact k.apart _ _ r s h1 h2 (by omega) b hb hb'
end Go.Proofs.YthljdhfgphebnaaGreat.Run

set_option linter.unusedSimpArgs false
namespace Go.Proofs.YthljdhfgphebnaaGreat.L10
open V L6 L9
open L4 (K isK cmpK)
open L5 (F isR isN string_geq)
open Go.Op (bytesLess)
open Go.ChangeShapes Go.WideShapes Go.ChangeAt Go.RowKit Mem Sl Ex L2 Sv Bag
open L8 (FitD fndS numO rdS rdX rdU co_len rd_store fit_store coS_at)

theorem infoE_Store : ∃ i, Tryz.prog.info? 70 = some i ∧ i.zero = some (.agg #[.string ⟨#[]⟩, .slice none 0 0, .int .i64 0]) ∧ i.size = 3 ∧ i.bytes = 48 := Ex.infoOf _ _ _ _ (by kernel_rfl)
def GaveStE (w : World) (l : List S6) (e : Ending) (w' : World) : Prop :=
 ∃ (a : Option Addr) (c : Nat) (ys : List LS), e = .returned (.slice a ys.length c) ∧ coS_Store ys = l ∧ BagOwn w' w.heap.size (rs_Store a c ys) ∧ Below w.heap.size w w'
set_option maxHeartbeats 8000000 in
theorem existingStores_any (z : Y_Database) (hf : FitD (co_Database z)) (a : Option Addr) (c : Nat) (ns : List L9s.T) (hl : ns.length ≤ 1048576) (w : World) (hr : RowsRd w w.heap.size (rw_Database z)) (hn : Reads w w.heap.size a (cT ns)) :
  Calls Tryz.prog 88 #[vv_Database z, .slice a ns.length c] w (GaveStE w (existS (co_Database z).f_Stores ns)) := by
 have HFS := Lib.hid (fun (n : ByteArray) w' (h : Below w.heap.size w w') => L8.findStore_any z n hf w' ((hr.below h).more h.size))
 unfold vv_Database co_Database at HFS
 have HNR := Lib.hid (fun w' (h : Below w.heap.size w w') => (hn.below h : Reads w' w.heap.size a (cT ns)))
 clear hn
 have HR : Hid (∀ w' (h : Below w.heap.size w w'), Reads w' w.heap.size z.f_Stores_a (z.f_Stores.flatMap cl_Store)) := Lib.hid (fun w' h => (rdS hr).below h)
 have HX : Hid (∀ w' (h : Below w.heap.size w w'), RowsRd w' w'.heap.size (rws_Store z.f_Stores)) := Lib.hid (fun w' h => ((rdX hr).below h).more h.size)
 have HU : Hid (∀ w' (h : Below w.heap.size w w'), Reads w' w.heap.size z.f_Unique_a (z.f_Unique.flatMap cl_IndexDef)) := Lib.hid (fun w' h => (rdU hr).below h)
 have HFD := Lib.hid hf
 have HFDl : z.f_Stores.length ≤ 1048576 := by have h := hf.len; rwa [co_len] at h
 have HFDm : z.f_Unique.length ≤ 1048576 := hf.many
 clear hf hr
 obtain ⟨name, ver, sa, sc, ss, ua, uc, us⟩ := z
 dsimp only [co_Database] at HR HX HU HFD HFDl HFDm
 try unfold vv_Database
 try unfold co_Database
 try dsimp only
 try rw [show coS_IndexDef us = us from rfl]
 rw [show coS_IndexDef us = us from rfl] at HFD
 obtain ⟨N, hN⟩ : ∃ n, n = ss.length := ⟨_, rfl⟩
 obtain ⟨M, hM⟩ : ∃ n, n = us.length := ⟨_, rfl⟩
 rw [← hN] at HFDl ⊢
 rw [← hM] at HFDm ⊢
 have HFDl' : (N : Int) ≤ 1048576 := by omega
 have HFDm' : (M : Int) ≤ 1048576 := by omega
 have HN := Lib.hid hN
 have HM := Lib.hid hM
 clear hN hM
 rw [← HN.out, ← HM.out] at HFS
 try dsimp only at HFS
 obtain ⟨L, hL⟩ : ∃ n, n = ns.length := ⟨_, rfl⟩
 rw [← hL] at hl ⊢
 have hl' : (L : Int) ≤ 1048576 := by omega
 have HL := Lib.hid hL
 clear hL
 obtain ⟨iS, hi1, hi2, hi3, hi4⟩ := infoE_Store
 have HIS := Lib.hid (And.intro hi1 (And.intro hi2 (And.intro hi3 hi4)))
 clear hi1 hi2 hi3 hi4
 have S1 := Lib.hid (show Sl.Sep w _ [_] from L4.push_box (Sl.Sep.start w) 33 #[.string name, .int .i64 ver, .slice sa N sc, .slice ua M uc] (w.heap.size) (by simp))
 obtain ⟨wa, hwa⟩ : ∃ w_, w_ = (w.alloc (.cells #[.string name, .int .i64 ver, .slice sa N sc, .slice ua M uc] 33)) := ⟨_, rfl⟩
 rw [← hwa] at S1
 go_enter Tryz.func88, Tryz.ntmps88
 go_upto_region 1 with fail
 rw [← hwa]
 clear hwa
 go_upto_region 2 with fail
 have S2 := Lib.hid (show Sl.Sep w _ [_, Sv.ownV 70 3 (some ⟨wa.heap.size, 0, none⟩) 0 0 (([] : List LS).flatMap cl_Store)] from Sv.push_own S1.out ((Below.refl _ _).alloc (Nat.le_refl _) _) (OwnV.madeAt wa 70 3 0 wa.heap.size #[] rfl (Nat.le_refl _) rfl (by decide)))
 clear S1
 obtain ⟨g1, hg⟩ : ∃ g', g' = wa.heap.size := ⟨_, rfl⟩
 rw [← hg] at S2 ⊢
 clear hg
 generalize wa.alloc (.cells #[] 70) = w1 at S2 ⊢
 have S3 := Lib.hid (show Sl.Sep w _ [_, Sv.ownV 70 3 (some ⟨g1, 0, none⟩) 0 0 (([] : List LS).flatMap cl_Store), Bag.bag (rws_Store [])] from Bag.push_bag S2.out (Below.refl _ _) (Bag.BagOwn.nil _ _))
 clear S2
 obtain ⟨f0, f1, f2, f3⟩ := Bag.cs4 S3.out 0 rfl
 go_wp2_with fail
 clear f0 f1 f2 f3
 go_loopw [5, 12] (fun v i wr => ∃ (k m : Nat) (A : Option Addr) (C : Nat) (ys : List LS), k ≤ L ∧ m ≤ k ∧ i = .int .i64 k ∧ v = .slice A m C ∧ Hid ((coS_Store ys = existS (coS_Store ss) (ns.take k) ∧ ys.length = m) ∧ Sl.Sep w wr [L4.boxR w.heap.size 33 #[.string name, .int .i64 ver, .slice sa N sc, .slice ua M uc], Sv.ownV 70 3 A C m (ys.flatMap cl_Store), Bag.bag (rws_Store ys)])) (fun _ i _ => L - (intOf i).toNat)
 case atStart => exact ⟨0, 0, _, _, [], Nat.zero_le _, Nat.le_refl _, rfl, rfl, And.intro ⟨rfl, rfl⟩ S3.out⟩
 case round =>
  obtain ⟨k, m, A, C, ys, hk, hmk, rfl, rfl, hrel⟩ := hrel
  have HCC := Lib.hid hrel.out.1
  have S40 := Lib.hid hrel.out.2
  clear hrel S3
  by_cases hlt : (k : Int) < (L : Int)
  ·
   skip
   have hkn : k < ns.length := by have := HL.out; omega
   have hm6 : m ≤ 1048576 := by omega
   obtain ⟨nad, e', -⟩ := readsT_at (HNR.out _ S40.out.old) k hkn
   subst e'
   obtain ⟨t, ht⟩ : ∃ t : ByteArray, t = ⟨ns[k].toArray⟩ := ⟨_, rfl⟩
   have HNK := Lib.hid (show ns[k]? = some ns[k] from List.getElem?_eq_getElem hkn)
   have HTC := Lib.hid (show (cT ns)[k]? = some (.string t) from by rw [ht]; unfold cT; rw [List.getElem?_map, HNK.out]; rfl)
   have HKn := Lib.hid (fun w' (h : Below w.heap.size w w') => readsT_cell (HNR.out w' h) k t HTC.out)
   have HTT := Lib.hid ht
   clear ht
   have HFLY := Lib.hid (show (ys.flatMap cl_Store).length = m * 3 from by rw [V.flat_len cl_Store_len, HCC.out.2])
   have HFI := fun w' (h : Below w.heap.size w w') => HFS.out t w' h
   cases hfo : fndS (coS_Store ss) t with
   | none =>
    rw [hfo] at HFI
    dsimp only [numO] at HFI
    replace HFI := Lib.hid HFI
    have HEX := Lib.hid (exist_snoc_none HNK.out (by rw [← HTT.out]; exact hfo))
    clear hfo
    obtain ⟨f0, f1, f2, f3⟩ := Bag.cs4 S40.out 0 rfl
    have f4 := HKn.out _ S40.out.old
    go_wp2_with fail
    go_at_call 110
    refine (HFI.out _ S40.out.old).mono ?_
    rintro e w2 ⟨rfl, hb⟩
    clear f0 f1 f2 f3 f4
    have S41 := Lib.hid (S40.out.keep hb)
    clear S40
    clear hb
    obtain ⟨f0, f1, f2, f3⟩ := Bag.cs4 S41.out 0 rfl
    have f4 := HKn.out _ S41.out.old
    go_wp2_with fail
    go_roundw
    case rel => exact ⟨k + 1, m, A, C, ys, by omega, by omega, by go_num, rfl, And.intro ⟨by rw [HEX.out]; exact HCC.out.1, HCC.out.2⟩ S41.out⟩
    case measure => simp [intOf]; omega
   | some j =>
    have hjl : j < ss.length := by obtain ⟨h1, _⟩ := L8.idx_some hfo; rw [coS_Store_eq, List.length_map] at h1; exact h1
    have hjN : (j : Int) < (N : Int) := by have := HN.out; omega
    have hj0 : (0 : Int) ≤ (j : Int) := by omega
    rw [hfo] at HFI
    dsimp only [numO] at HFI
    replace HFI := Lib.hid HFI
    have HFO := Lib.hid hfo
    clear hfo
    obtain ⟨x, hx⟩ : ∃ x, ss[j]? = some x := ⟨_, List.getElem?_eq_getElem hjl⟩
    obtain ⟨sad, e'⟩ := el_some cl_Store_len (by decide) (HR.out _ S40.out.old) hjl
    subst e'
    have HKx := Lib.hid (fun w' (h : Below w.heap.size w w') => el3 cl_Store_len (HR.out _ h) hx rfl)
    have HRx := Lib.hid (fun w' (h : Below w.heap.size w w') => rd_store (HX.out w' h) hx)
    have HFx := Lib.hid (fit_store HFD.out.stores hx)
    have HCx := Lib.hid (coS_at hx)
    clear hx
    have HEX := Lib.hid (exist_snoc_some HNK.out (by rw [← HTT.out]; exact HFO.out) HCx.out)
    have HCI := Lib.hid (fun w' (h : Below w.heap.size w w') => copyStore_any x HFx.out w' (HRx.out w' h))
    dsimp only [LS.v, LS.cells] at HCI
    obtain ⟨f0, f1, f2, f3⟩ := Bag.cs4 S40.out 0 rfl
    have f4 := HKn.out _ S40.out.old
    obtain ⟨f5, f6, f7⟩ := HKx.out _ S40.out.old
    go_wp2_with fail
    go_at_call 110
    refine (HFI.out _ S40.out.old).mono ?_
    rintro e w2 ⟨rfl, hb⟩
    clear f0 f1 f2 f3 f4 f5 f6 f7
    have S41 := Lib.hid (S40.out.keep hb)
    clear S40
    clear hb
    obtain ⟨f0, f1, f2, f3⟩ := Bag.cs4 S41.out 0 rfl
    have f4 := HKn.out _ S41.out.old
    obtain ⟨f5, f6, f7⟩ := HKx.out _ S41.out.old
    go_wp2_with fail
    go_at_call 72
    refine (HCI.out _ S41.out.old).mono ?_
    rintro e w3 ⟨y, rfl, hcy, ho, hb⟩
    clear f0 f1 f2 f3 f4 f5 f6 f7
    have S42 := Lib.hid (show Sl.Sep w _ [L4.boxR w.heap.size 33 #[.string name, .int .i64 ver, .slice (some sad) N sc, .slice ua M uc], Sv.ownV 70 3 A C m (ys.flatMap cl_Store), Bag.bag (rws_Store ys), Bag.bag (LS.rows y)] from Bag.push_bag S41.out hb ho)
    clear S41
    clear hb ho
    have HCY := Lib.hid hcy
    clear hcy
    dsimp only [LS.v, LS.cells]
    have S43 := Lib.hid (show Sl.Sep w _ [_, _, _, _, Sv.ownV 70 3 (some ⟨w3.heap.size, 0, none⟩) 1 1 ([y].flatMap cl_Store)] from Sv.push_own S42.out ((Below.refl _ _).alloc (Nat.le_refl _) _) (OwnV.madeAt w3 70 3 1 w3.heap.size #[.string y.name, .slice y.a y.xs.length y.c, .int .i64 y.auto] rfl (Nat.le_refl _) rfl (by decide)))
    clear S42
    go_wp2_with (at_builtin; refine L5.wpList_append_v S43.out 1 rfl rfl _ _ 30 (by rfl) iS (.agg #[.string ⟨#[]⟩, .slice none 0 0, .int .i64 0]) 48 Tryz.underlying30 HIS.out.1 HIS.out.2.1 HIS.out.2.2.1 HIS.out.2.2.2 rfl (by omega) _ (by rfl) rfl _ _ 1 _ _ ([y].flatMap cl_Store) (by rfl) rfl (Sv.own_at S43.out 4 rfl).reads rfl (V.one_flat cl_Store_one _) (by unfold maxLen; omega) (by omega) ?_; intro a2' c2' w4 hA)
    have S44 := Lib.hid (show Sl.Sep w _ [_, Sv.ownV 70 3 a2' c2' (m + 1) (ys.flatMap cl_Store ++ ([y].flatMap cl_Store)), _, _, _] from hA)
    clear S43
    clear hA
    have S45 := Lib.hid (show Sl.Sep w _ [_, _, Bag.bag (rws_Store ys ++ (LS.rows y)), Bag.bag ([]), _] from Bag.bag_join S44.out 2 3 (by decide) rfl rfl)
    clear S44
    have S46 := Lib.hid (show Sl.Sep w _ [_, _, _] from Bag.take S45.out [0, 1, 2] (by rfl) (by decide))
    clear S45
    go_roundw
    case rel =>
     refine ⟨k + 1, m + 1, a2', c2', ys ++ [y], by omega, by omega, by go_num, rfl, And.intro ⟨?_, ?_⟩ ?_⟩
     ·
      rw [HEX.out, ← HCC.out.1, coS_Store_eq, coS_Store_eq, List.map_append]; exact congrArg (fun u => _ ++ [u]) HCY.out
     ·
      rw [List.length_append, HCC.out.2]; rfl
     ·
      rw [List.flatMap_append, rws_Store_app, show rws_Store [y] = LS.rows y from by rw [rws_Store_eq]; simp; rfl]; exact S46.out
    case measure => simp [intOf]; omega
  ·
   skip
   obtain rfl : k = L := by omega
   obtain ⟨f0, f1, f2, f3⟩ := Bag.cs4 S40.out 0 rfl
   go_wp2_with fail
   go_ret
   have hc1 := HCC.out.1
   rw [List.take_of_length_le (show ns.length ≤ k by have := HL.out; omega)] at hc1
   have S90 := Lib.hid (Bag.bag_of_one S40.out 1 (r := row_Store A C ys) (by unfold RowS.res row_Store; dsimp only; rw [HCC.out.2]; rfl))
   have S91 := Lib.hid (Bag.bag_join S90.out 1 2 (by decide) rfl rfl)
   exact ⟨A, C, ys, by rw [HCC.out.2] <;> rfl, hc1, Bag.bag_from S91.out 1 rfl, S91.out.old⟩
def GaveRun (w : World) (d : X_Database) (q : List X_Tx) (e : Ending) (w' : World) : Prop :=
 ∃ (g gs gu gq : Nat) (ys : List LS) (zs : List Y_Tx), e = .returned (.pointer (some ⟨g, 0, none⟩)) ∧ coS_Store ys = d.f_Stores ∧ coS_Tx zs = q ∧
  Sl.Sep w w' [L4.boxR g 98 #[.string d.f_Name, .int .i64 d.f_Version, .slice (some ⟨gs, 0, none⟩) ys.length ys.length, .slice (some ⟨gu, 0, none⟩) d.f_Unique.length d.f_Unique.length, .slice (some ⟨gq, 0, none⟩) zs.length zs.length], Bag.bag ((row_Store (some ⟨gs, 0, none⟩) ys.length ys :: rws_Store ys) ++ [row_IndexDef (some ⟨gu, 0, none⟩) d.f_Unique.length d.f_Unique]), Bag.bag (rs_Tx (some ⟨gq, 0, none⟩) zs.length zs)]
set_option maxHeartbeats 8000000 in
theorem newTxRun_any (z : Y_Database) (hf : FitD (co_Database z)) (a : Option Addr) (c : Nat) (ts : List Y_Tx) (hl : ts.length ≤ 1048576) (hft : ∀ t ∈ coS_Tx ts, FitT t) (w : World) (hr : RowsRd w w.heap.size (rw_Database z)) (hrt : Reads w w.heap.size a (ts.flatMap cl_Tx)) (hxt : RowsRd w w.heap.size (rws_Tx ts)) :
  Calls Tryz.prog 55 #[vv_Database z, .agg #[.slice a ts.length c]] w (GaveRun w (co_Database z) (coS_Tx ts)) := by
 have HCD := Lib.hid (fun w' (h : Below w.heap.size w w') => L8.copyDatabase_full z hf w' ((hr.below h).more h.size))
 have HCQ := Lib.hid (fun w' (h : Below w.heap.size w w') => copyQueue_full a c ts hl hft w' ((hrt.below h).more h.size) ((hxt.below h).more h.size))
 clear hr hrt hxt
 obtain ⟨name, ver, sa, sc, ss, ua, uc, us⟩ := z
 unfold L8.GaveDF vv_Database co_Database at HCD
 unfold vv_Database co_Database
 try dsimp only at HCD ⊢
 rw [show coS_IndexDef us = us from rfl] at HCD
 rw [show coS_IndexDef us = us from rfl]
 have S1 := Lib.hid (show Sl.Sep w _ [_, _] from L4.push_box (L4.push_box (Sl.Sep.start w) 33 #[.string name, .int .i64 ver, .slice sa ss.length sc, .slice ua us.length uc] (w.heap.size) (by simp)) 56 #[.slice a ts.length c] (w.heap.size + 1) (by simp))
 obtain ⟨wa, hwa⟩ : ∃ w_, w_ = ((w.alloc (.cells #[.string name, .int .i64 ver, .slice sa ss.length sc, .slice ua us.length uc] 33)).alloc (.cells #[.slice a ts.length c] 56)) := ⟨_, rfl⟩
 rw [← hwa] at S1
 go_enter Tryz.func55, Tryz.ntmps55
 go_upto_region 1 with fail
 rw [← hwa]
 clear hwa
 obtain ⟨f0, f1, f2, f3⟩ := Bag.cs4 S1.out 0 rfl
 have f4 := Bag.cs1 S1.out 1 rfl
 go_upto_region 1 with fail
 clear f0 f1 f2 f3 f4
 refine wp_region_held_drew (S := (fun w' => (w'.cell? ⟨w.heap.size, 0, none⟩ = some (.string name) ∧ w'.cell? ⟨w.heap.size, 1, none⟩ = some (.int .i64 ver) ∧ w'.cell? ⟨w.heap.size, 2, none⟩ = some (.slice sa ss.length sc) ∧ w'.cell? ⟨w.heap.size, 3, none⟩ = some (.slice ua us.length uc)) ∧ (w'.cell? ⟨w.heap.size + 1, 0, none⟩ = some (.slice a ts.length c)))) (by kernel_rfl) ⟨Bag.cs4 (Bag.drew1 S1.out) 0 rfl, Bag.cs1 (Bag.drew1 S1.out) 1 rfl⟩ (fun hS => ?_)
 have S2 := Lib.hid (Bag.drew1 S1.out)
 clear S1
 generalize World.drew _ = w1 at hS S2 ⊢
 refine tk 0 rfl ?_
 try simp only [zp0, zp1, zp2, zp3, zp4]
 refine tk 2 rfl ?_
 try simp only [zp0, zp1, zp2, zp3, zp4]
 refine Reg.one_op (i := 1) rfl (by kernel_rfl) (fun K hK => ?_)
 go_simp
 go_at_call 38
 refine (HCD.out _ S2.out.old).mono ?_
 rintro e w2 ⟨gs, gu, ys, rfl, hcy, ho, hb⟩
 have S3 := Lib.hid (show Sl.Sep w _ [_, _, Bag.bag ((row_Store (some ⟨gs, 0, none⟩) ys.length ys :: rws_Store ys) ++ [row_IndexDef (some ⟨gu, 0, none⟩) us.length us])] from Bag.push_bag S2.out hb ho)
 clear S2
 clear hb ho
 have HCY := Lib.hid hcy
 clear hcy
 go_wp2_with fail
 refine hK.out _ _ ⟨Bag.cs4 S3.out 0 rfl, Bag.cs1 S3.out 1 rfl⟩ (fun hS => ?_)
 clear hK K
 try simp only [zp0, zp1, zp2, zp3, zp4]
 refine Reg.one_op (i := 3) rfl (by kernel_rfl) (fun K hK => ?_)
 go_simp
 go_at_call 86
 refine (HCQ.out _ S3.out.old).mono ?_
 rintro e w3 ⟨gq, zs, rfl, hcz, ho, hb⟩
 have S4 := Lib.hid (show Sl.Sep w _ [_, _, _, Bag.bag (rs_Tx (some ⟨gq, 0, none⟩) zs.length zs)] from Bag.push_bag S3.out hb ho)
 clear S3
 clear hb ho
 have HCZ := Lib.hid hcz
 clear hcz
 go_wp2_with fail
 refine hK.out _ _ ⟨Bag.cs4 S4.out 0 rfl, Bag.cs1 S4.out 1 rfl⟩ (fun hS => ?_)
 clear hK K
 try simp only [zp0, zp1, zp2, zp3, zp4]
 refine tk 4 rfl ?_
 try simp only [zp0, zp1, zp2, zp3, zp4]
 refine Reg.one_op (i := 5) rfl (by kernel_rfl) (fun K hK => ?_)
 go_simp
 have S5 := Lib.hid (show Sl.Sep w _ [_, _, _, _, _] from L4.push_box S4.out 98 #[.string name, .int .i64 ver, .slice (some ⟨gs, 0, none⟩) ys.length ys.length, .slice (some ⟨gu, 0, none⟩) us.length us.length, .slice (some ⟨gq, 0, none⟩) zs.length zs.length] w3.heap.size rfl)
 clear S4
 obtain ⟨g1, hg⟩ : ∃ g', g' = w3.heap.size := ⟨_, rfl⟩
 rw [← hg] at S5 ⊢
 clear hg
 generalize w3.alloc (.cells #[.string name, .int .i64 ver, .slice (some ⟨gs, 0, none⟩) ys.length ys.length, .slice (some ⟨gu, 0, none⟩) us.length us.length, .slice (some ⟨gq, 0, none⟩) zs.length zs.length] 98) = w4 at S5 ⊢
 refine hK.out _ _ ⟨Bag.cs4 S5.out 0 rfl, Bag.cs1 S5.out 1 rfl⟩ (fun hS => ?_)
 clear hK K
 try simp only [zp0, zp1, zp2, zp3, zp4]
 refine tk 6 rfl ?_
 try simp only [zp0, zp1, zp2, zp3, zp4]
 refine wpAnyH_done (by kernel_rfl) ?_ _
 obtain ⟨f0, f1, f2, f3⟩ := Bag.cs4 S5.out 0 rfl
 have f4 := Bag.cs1 S5.out 1 rfl
 obtain ⟨f5, f6, f7, f8, f9⟩ := Bag.cs5 S5.out 4 rfl
 clear f0 f1 f2 f3 f4 f5 f6 f7 f8 f9
 have S6 := Lib.hid (show Sl.Sep w _ [L4.boxR g1 98 #[.string name, .int .i64 ver, .slice (some ⟨gs, 0, none⟩) ys.length ys.length, .slice (some ⟨gu, 0, none⟩) us.length us.length, .slice (some ⟨gq, 0, none⟩) zs.length zs.length], _, _] from Bag.take S5.out [4, 2, 3] (by rfl) (by decide))
 clear S5
 go_wp2_with fail
 go_ret
 exact ⟨g1, gs, gu, gq, ys, zs, rfl, HCY.out, HCZ.out, S6.out⟩
set_option maxHeartbeats 8000000 in
theorem start_sep {W w : World} (z : Y_Database) (hf : FitD (co_Database z)) (g gq : Nat) (zs : List Y_Tx) (hl : zs.length ≤ 1048576) (hft : ∀ t ∈ coS_Tx zs, FitT t) (i : Int) (Q : Res) (S : Sl.Sep W w [L4.boxR g 98 #[.string z.f_Name, .int .i64 z.f_Version, .slice z.f_Stores_a z.f_Stores.length z.f_Stores_c, .slice z.f_Unique_a z.f_Unique.length z.f_Unique_c, .slice (some ⟨gq, 0, none⟩) zs.length zs.length], Bag.bag (rw_Database z), Bag.bag (rs_Tx (some ⟨gq, 0, none⟩) zs.length zs), Q]) :
  Calls Tryz.prog 56 #[.pointer (some ⟨g, 0, none⟩), .int .i64 i] w fun e w' => ∃ zs' : List Y_Tx, zs'.length = zs.length ∧ e = .returned (.bool (csQ (coS_Tx zs) i)) ∧ coS_Tx zs' = stX (co_Database z) (coS_Tx zs) i ∧ Sl.Sep W w' [L4.boxR g 98 #[.string z.f_Name, .int .i64 z.f_Version, .slice z.f_Stores_a z.f_Stores.length z.f_Stores_c, .slice z.f_Unique_a z.f_Unique.length z.f_Unique_c, .slice (some ⟨gq, 0, none⟩) zs.length zs.length], Bag.bag (rw_Database z), Bag.bag (rs_Tx (some ⟨gq, 0, none⟩) zs.length zs'), Q] := by
 obtain ⟨b, hb⟩ : ∃ b, csQ (coS_Tx zs) i = b := ⟨_, rfl⟩
 have HCS := Lib.hid (fun w' (h : RowsRd w' w'.heap.size (rs_Tx (some ⟨gq, 0, none⟩) zs.length zs)) => canStart_any (some ⟨gq, 0, none⟩) zs.length zs hl hft (Nat.le_refl _) i w' (rd_head h).reads (rd_tail h))
 obtain ⟨N, hN⟩ : ∃ n, n = zs.length := ⟨_, rfl⟩
 rw [hb, ← hN] at HCS
 rw [hb, ← hN]
 rw [← hN] at S
 have hlN : N ≤ 1048576 := by omega
 have hlN' : (N : Int) ≤ 1048576 := by omega
 have HB := Lib.hid hb
 have HN := Lib.hid hN
 have HF := Lib.hid hf
 have HFT := Lib.hid hft
 have S1 := Lib.hid S
 clear S hf hft hb hN hl
 have S2 := Lib.hid (show Sl.Sep W _ [L4.boxR g 98 #[.string z.f_Name, .int .i64 z.f_Version, .slice z.f_Stores_a z.f_Stores.length z.f_Stores_c, .slice z.f_Unique_a z.f_Unique.length z.f_Unique_c, .slice (some ⟨gq, 0, none⟩) N N], Bag.bag (rw_Database z), Bag.bag (rs_Tx (some ⟨gq, 0, none⟩) N zs), Q] from S1.out)
 clear S1
 obtain ⟨f0, f1, f2, f3, f4⟩ := Bag.cs5 S2.out 0 rfl
 go_enter Tryz.func56, Tryz.ntmps56
 go_wp2_with fail
 go_at_call 87
 refine (HCS.out _ (Bag.bag_rd S2.out 2 rfl)).mono ?_
 rintro e w1 ⟨rfl, hb⟩
 clear f0 f1 f2 f3 f4
 have S3 := Lib.hid (S2.out.keep hb)
 clear S2
 clear hb
 cases b with
 | false =>
  obtain ⟨f0, f1, f2, f3, f4⟩ := Bag.cs5 S3.out 0 rfl
  go_wp2_with fail
  go_ret
  exact ⟨zs, HN.out.symm, rfl, (stX_no HB.out).symm, S3.out⟩
 | true =>
  obtain ⟨k, t0, hk, hct, -⟩ := csQ_parts HB.out
  subst hk
  have hkl : k < zs.length := by have h := (List.getElem?_eq_some_iff.1 hct).1; rwa [coT_len] at h
  clear hct t0
  obtain ⟨x, hx⟩ : ∃ x, zs[k]? = some x := ⟨_, List.getElem?_eq_getElem hkl⟩
  have HCX := Lib.hid (coT_at hx)
  have HSX := Lib.hid (stX_yes (d := co_Database z) HB.out HCX.out)
  have HFX := Lib.hid (HFT.out _ (List.mem_of_getElem? HCX.out))
  have hkN : (k : Int) < (N : Int) := by have := HN.out; omega
  have HZT := Lib.hid (show zs = zs.take k ++ x :: zs.drop (k + 1) from by rw [← V.drop_next hx, List.take_append_drop])
  have HTL := Lib.hid (show (zs.take k).length = k from by rw [List.length_take, Nat.min_eq_left (by omega)])
  clear hx
  obtain ⟨D0, hD0⟩ : ∃ D0, D0 = (zs.take k).flatMap cl_Tx := ⟨_, rfl⟩
  obtain ⟨R0, hR0⟩ : ∃ R0, R0 = (zs.drop (k + 1)).flatMap cl_Tx := ⟨_, rfl⟩
  have HD0 := Lib.hid hD0
  have HR0 := Lib.hid hR0
  have HDL := Lib.hid (show D0.length = k * 5 from by rw [hD0, V.flat_len cl_Tx_len, HTL.out])
  clear hD0 hR0
  have S4 := Lib.hid (show Sl.Sep W _ [L4.boxR g 98 #[.string z.f_Name, .int .i64 z.f_Version, .slice z.f_Stores_a z.f_Stores.length z.f_Stores_c, .slice z.f_Unique_a z.f_Unique.length z.f_Unique_c, .slice (some ⟨gq, 0, none⟩) N N], Bag.bag (rw_Database z), Bag.bag ([row_Tx (some ⟨gq, 0, none⟩) N zs] ++ rws_Tx zs), Q] from S3.out)
  clear S3
  have S5 := Lib.hid (show Sl.Sep W _ [_, _, Bag.bag ([row_Tx (some ⟨gq, 0, none⟩) N zs]), Q, Bag.bag (rws_Tx zs)] from Bag.bag_split S4.out 2 rfl)
  clear S4
  have S6 := Lib.hid (show Sl.Sep W _ [_, _, Sv.ownV 89 5 (some ⟨gq, 0, none⟩) N N (D0 ++ (.int .i64 x.f_Id :: .slice x.f_Ops_a x.f_Ops.length x.f_Ops_c :: .int .i64 x.f_At :: .int .i64 x.f_State :: .slice x.f_Backup_a x.f_Backup.length x.f_Backup_c :: R0)), Q, _] from (by have h := Bag.one_of_bag S5.out 2 (r := row_Tx (some ⟨gq, 0, none⟩) N zs) rfl; unfold RowS.res row_Tx at h; dsimp only at h; rw [← HN.out, show zs.flatMap cl_Tx = D0 ++ (.int .i64 x.f_Id :: .slice x.f_Ops_a x.f_Ops.length x.f_Ops_c :: .int .i64 x.f_At :: .int .i64 x.f_State :: .slice x.f_Backup_a x.f_Backup.length x.f_Backup_c :: R0) from by (conv => lhs; rw [HZT.out, List.flatMap_append, List.flatMap_cons, ← HD0.out, ← HR0.out]); rfl] at h; exact h))
  clear S5
  have S7 := Lib.hid (show Sl.Sep W _ [L4.boxR g 98 #[.string z.f_Name, .int .i64 z.f_Version, .slice z.f_Stores_a z.f_Stores.length z.f_Stores_c, .slice z.f_Unique_a z.f_Unique.length z.f_Unique_c, .slice (some ⟨gq, 0, none⟩) N N], Bag.bag (rw_Database z), Sv.ownV 89 5 (some ⟨gq, 0, none⟩) N N (D0 ++ (.int .i64 x.f_Id :: .slice x.f_Ops_a x.f_Ops.length x.f_Ops_c :: .int .i64 x.f_At :: .int .i64 x.f_State :: .slice x.f_Backup_a x.f_Backup.length x.f_Backup_c :: R0)), Q, Bag.bag ((rws_Tx (zs.take k) ++ rws_Tx (zs.drop (k + 1))) ++ rw_Tx x)] from Bag.bag_perm S6.out 4 rfl (by rw [show rws_Tx zs = (zs.take k).flatMap rw_Tx ++ (x :: zs.drop (k + 1)).flatMap rw_Tx from by conv => lhs; rw [HZT.out, rws_Tx_eq, List.flatMap_append]]; exact V.flat_out _ _ _))
  clear S6
  have S8 := Lib.hid (show Sl.Sep W _ [_, _, _, Q, Bag.bag (rws_Tx (zs.take k) ++ rws_Tx (zs.drop (k + 1))), Bag.bag (rs_Op x.f_Ops_a x.f_Ops_c x.f_Ops ++ rs_Store x.f_Backup_a x.f_Backup_c x.f_Backup)] from Bag.bag_split S7.out 4 rfl)
  clear S7
  have S9 := Lib.hid (show Sl.Sep W _ [_, _, _, Q, _, Bag.bag (rs_Op x.f_Ops_a x.f_Ops_c x.f_Ops), Bag.bag (rs_Store x.f_Backup_a x.f_Backup_c x.f_Backup)] from Bag.bag_split S8.out 5 rfl)
  clear S8
  have S10 := Lib.hid (show Sl.Sep W _ [_, _, _, Q, _, _] from Bag.take S9.out [0, 1, 2, 3, 4, 5] (by rfl) (by decide))
  clear S9
  obtain ⟨f0, f1, f2, f3, f4⟩ := Bag.cs5 S10.out 0 rfl
  go_upto_region 4 with fail
  have q3 : World.cell? w1 ⟨gq, k * 5 + 3, none⟩ = some (.int .i64 x.f_State) := (by rw [(Sv.own_at S10.out 2 rfl).cell (k * 5 + 3) (by rw [List.length_append, HDL.out]; simp <;> omega)]; simp [List.getElem_append, HDL.out])
  have y3 := (Sv.own_at S10.out 2 rfl).free (k * 5 + 3)
  go_upto_region 5 with fail
  clear f0 f1 f2 f3 f4 q3 y3
  have HOV := Lib.hid (show Run.over (D0 ++ (.int .i64 x.f_Id :: .slice x.f_Ops_a x.f_Ops.length x.f_Ops_c :: .int .i64 x.f_At :: .int .i64 x.f_State :: .slice x.f_Backup_a x.f_Backup.length x.f_Backup_c :: R0)) (k * 5 + 3) [.int .i64 1] = D0 ++ (.int .i64 x.f_Id :: .slice x.f_Ops_a x.f_Ops.length x.f_Ops_c :: .int .i64 x.f_At :: .int .i64 1 :: .slice x.f_Backup_a x.f_Backup.length x.f_Backup_c :: R0) from by rw [show D0 ++ (.int .i64 x.f_Id :: .slice x.f_Ops_a x.f_Ops.length x.f_Ops_c :: .int .i64 x.f_At :: .int .i64 x.f_State :: .slice x.f_Backup_a x.f_Backup.length x.f_Backup_c :: R0) = (D0 ++ ([.int .i64 x.f_Id, .slice x.f_Ops_a x.f_Ops.length x.f_Ops_c, .int .i64 x.f_At] : List Value)) ++ ([.int .i64 x.f_State] ++ (.slice x.f_Backup_a x.f_Backup.length x.f_Backup_c :: R0)) from by simp, Run.over_mid (D0 ++ ([.int .i64 x.f_Id, .slice x.f_Ops_a x.f_Ops.length x.f_Ops_c, .int .i64 x.f_At] : List Value)) (.slice x.f_Backup_a x.f_Backup.length x.f_Backup_c :: R0) [.int .i64 1] [.int .i64 x.f_State] (k * 5 + 3) (by simp [HDL.out]) rfl]; simp)
  have S11 := Lib.hid (show Sl.Sep W (w1.setCell ⟨gq, k * 5 + 3, none⟩ (.int .i64 1)) [_, _, Sv.ownV 89 5 (some ⟨gq, 0, none⟩) N N (D0 ++ (.int .i64 x.f_Id :: .slice x.f_Ops_a x.f_Ops.length x.f_Ops_c :: .int .i64 x.f_At :: .int .i64 1 :: .slice x.f_Backup_a x.f_Backup.length x.f_Backup_c :: R0)), Q, _, _] from (by have h := Run.put_run S10.out 2 rfl (k * 5 + 3) [.int .i64 1] (by rw [List.length_append, HDL.out]; simp <;> omega); rw [HOV.out] at h; exact h))
  clear S10
  clear HOV
  generalize (w1.setCell ⟨gq, k * 5 + 3, none⟩ (.int .i64 1)) = w2 at S11 ⊢
  have HSC := fun w' (h : RowsRd w' w'.heap.size (rs_Op x.f_Ops_a x.f_Ops_c x.f_Ops)) => scopeOf_any x.f_Ops_a x.f_Ops_c x.f_Ops (by have h9 := HFX.out.len; rwa [show (co_Tx x).f_Ops = coS_Op x.f_Ops from rfl, coS_len] at h9) HFX.out.ops w' (rd_head h).reads (rd_tail h)
  obtain ⟨ns, hns⟩ : ∃ s, L9s.scopeN (nmO (coS_Op x.f_Ops)) = s := ⟨_, rfl⟩
  rw [hns] at HSC
  replace HSC := Lib.hid HSC
  have HNS := Lib.hid hns
  have hnl : ns.length ≤ 1048576 := by have h1 := L9s.length_scopeN (nmO (coS_Op x.f_Ops)); have h2 := HFX.out.len; rw [hns, nmO_len] at h1; rw [show (co_Tx x).f_Ops = coS_Op x.f_Ops from rfl] at h2; omega
  clear hns
  have HEX := fun na nc w' (h : RowsRd w' w'.heap.size (rw_Database z)) (h2 : RowsRd w' w'.heap.size [rowT na nc ns]) => existingStores_any z HF.out na nc ns hnl w' h (rd_head h2).reads
  unfold vv_Database at HEX
  replace HEX := Lib.hid HEX
  refine wp_region_held_drew (S := (fun w' => (w'.cell? ⟨g, 0, none⟩ = some (.string z.f_Name) ∧ w'.cell? ⟨g, 1, none⟩ = some (.int .i64 z.f_Version) ∧ w'.cell? ⟨g, 2, none⟩ = some (.slice z.f_Stores_a z.f_Stores.length z.f_Stores_c) ∧ w'.cell? ⟨g, 3, none⟩ = some (.slice z.f_Unique_a z.f_Unique.length z.f_Unique_c) ∧ w'.cell? ⟨g, 4, none⟩ = some (.slice (some ⟨gq, 0, none⟩) N N)) ∧ w'.cell? ⟨gq, k * 5 + 1, none⟩ = some (.slice x.f_Ops_a x.f_Ops.length x.f_Ops_c))) (by kernel_rfl) ⟨Bag.cs5 (Bag.drew1 S11.out) 0 rfl, (by rw [(Sv.own_at (Bag.drew1 S11.out) 2 rfl).cell (k * 5 + 1) (by rw [List.length_append, HDL.out]; simp <;> omega)]; simp [List.getElem_append, HDL.out])⟩ (fun hS => ?_)
  have S12 := Lib.hid (Bag.drew1 S11.out)
  clear S11
  generalize World.drew _ = w3 at hS S12 ⊢
  refine tk 0 rfl ?_
  try simp only [zp0, zp1, zp2, zp3, zp4]
  refine tk 1 rfl ?_
  try simp only [zp0, zp1, zp2, zp3, zp4]
  refine tk 2 rfl ?_
  try simp only [zp0, zp1, zp2, zp3, zp4]
  refine tk 3 rfl ?_
  try simp only [zp0, zp1, zp2, zp3, zp4]
  refine tk 4 rfl ?_
  try simp only [zp0, zp1, zp2, zp3, zp4]
  refine tk 5 rfl ?_
  try simp only [zp0, zp1, zp2, zp3, zp4]
  refine tk 6 rfl ?_
  try simp only [zp0, zp1, zp2, zp3, zp4]
  refine tk 7 rfl ?_
  try simp only [zp0, zp1, zp2, zp3, zp4]
  refine tk 8 rfl ?_
  try simp only [zp0, zp1, zp2, zp3, zp4]
  refine Reg.one_op (i := 9) rfl (by kernel_rfl) (fun K hK => ?_)
  go_simp
  go_at_call 89
  refine (HSC.out _ (Bag.bag_rd S12.out 5 rfl)).mono ?_
  rintro e w4 ⟨na, nc, rfl, ho, hb⟩
  have S13 := Lib.hid (show Sl.Sep W _ [_, _, _, Q, _, _, Bag.bag ([rowT na nc ns])] from Bag.push_bag S12.out hb ho)
  clear S12
  clear hb ho
  go_wp2_with fail
  refine hK.out _ _ ⟨Bag.cs5 S13.out 0 rfl, (by rw [(Sv.own_at S13.out 2 rfl).cell (k * 5 + 1) (by rw [List.length_append, HDL.out]; simp <;> omega)]; simp [List.getElem_append, HDL.out])⟩ (fun hS => ?_)
  clear hK K
  try simp only [zp0, zp1, zp2, zp3, zp4]
  refine Reg.one_op (i := 10) rfl (by kernel_rfl) (fun K hK => ?_)
  go_simp
  go_at_call 88
  refine (HEX.out na nc _ (Bag.bag_rd S13.out 1 rfl) (Bag.bag_rd S13.out 6 rfl)).mono ?_
  rintro e w5 ⟨ba, bc, bl, rfl, hcb, ho, hb⟩
  have S14 := Lib.hid (show Sl.Sep W _ [_, _, _, Q, _, _, _, Bag.bag (rs_Store ba bc bl)] from Bag.push_bag S13.out hb ho)
  clear S13
  clear hb ho
  have HCB := Lib.hid hcb
  clear hcb
  go_wp2_with fail
  refine hK.out _ _ ⟨Bag.cs5 S14.out 0 rfl, (by rw [(Sv.own_at S14.out 2 rfl).cell (k * 5 + 1) (by rw [List.length_append, HDL.out]; simp <;> omega)]; simp [List.getElem_append, HDL.out])⟩ (fun hS => ?_)
  clear hK K
  try simp only [zp0, zp1, zp2, zp3, zp4]
  refine tk 11 rfl ?_
  try simp only [zp0, zp1, zp2, zp3, zp4]
  refine tk 12 rfl ?_
  try simp only [zp0, zp1, zp2, zp3, zp4]
  refine Reg.one_op (i := 13) rfl (by kernel_rfl) (fun K hK => ?_)
  have q4 : World.cell? w5 ⟨gq, k * 5 + 4, none⟩ = some (.slice x.f_Backup_a x.f_Backup.length x.f_Backup_c) := (by rw [(Sv.own_at S14.out 2 rfl).cell (k * 5 + 4) (by rw [List.length_append, HDL.out]; simp <;> omega)]; simp [List.getElem_append, HDL.out])
  have y4 := (Sv.own_at S14.out 2 rfl).free (k * 5 + 4)
  go_simp
  clear q4 y4
  have HOV := Lib.hid (show Run.over (D0 ++ (.int .i64 x.f_Id :: .slice x.f_Ops_a x.f_Ops.length x.f_Ops_c :: .int .i64 x.f_At :: .int .i64 1 :: .slice x.f_Backup_a x.f_Backup.length x.f_Backup_c :: R0)) (k * 5 + 4) [.slice ba bl.length bc] = D0 ++ (.int .i64 x.f_Id :: .slice x.f_Ops_a x.f_Ops.length x.f_Ops_c :: .int .i64 x.f_At :: .int .i64 1 :: .slice ba bl.length bc :: R0) from by rw [show D0 ++ (.int .i64 x.f_Id :: .slice x.f_Ops_a x.f_Ops.length x.f_Ops_c :: .int .i64 x.f_At :: .int .i64 1 :: .slice x.f_Backup_a x.f_Backup.length x.f_Backup_c :: R0) = (D0 ++ ([.int .i64 x.f_Id, .slice x.f_Ops_a x.f_Ops.length x.f_Ops_c, .int .i64 x.f_At, .int .i64 1] : List Value)) ++ ([.slice x.f_Backup_a x.f_Backup.length x.f_Backup_c] ++ (R0)) from by simp, Run.over_mid (D0 ++ ([.int .i64 x.f_Id, .slice x.f_Ops_a x.f_Ops.length x.f_Ops_c, .int .i64 x.f_At, .int .i64 1] : List Value)) (R0) [.slice ba bl.length bc] [.slice x.f_Backup_a x.f_Backup.length x.f_Backup_c] (k * 5 + 4) (by simp [HDL.out]) rfl]; simp)
  have S15 := Lib.hid (show Sl.Sep W (w5.setCell ⟨gq, k * 5 + 4, none⟩ (.slice ba bl.length bc)) [_, _, Sv.ownV 89 5 (some ⟨gq, 0, none⟩) N N (D0 ++ (.int .i64 x.f_Id :: .slice x.f_Ops_a x.f_Ops.length x.f_Ops_c :: .int .i64 x.f_At :: .int .i64 1 :: .slice ba bl.length bc :: R0)), Q, _, _, _, _] from (by have h := Run.put_run S14.out 2 rfl (k * 5 + 4) [.slice ba bl.length bc] (by rw [List.length_append, HDL.out]; simp <;> omega); rw [HOV.out] at h; exact h))
  clear S14
  clear HOV
  refine hK.out _ _ ⟨Bag.cs5 S15.out 0 rfl, (by rw [(Sv.own_at S15.out 2 rfl).cell (k * 5 + 1) (by rw [List.length_append, HDL.out]; simp <;> omega)]; simp [List.getElem_append, HDL.out])⟩ (fun hS => ?_)
  clear hK K
  try simp only [zp0, zp1, zp2, zp3, zp4]
  refine wpAnyH_done (by kernel_rfl) ?_ _
  obtain ⟨f0, f1, f2, f3, f4⟩ := Bag.cs5 S15.out 0 rfl
  have f5 : World.cell? _ ⟨gq, k * 5 + 1, none⟩ = some (.slice x.f_Ops_a x.f_Ops.length x.f_Ops_c) := (by rw [(Sv.own_at S15.out 2 rfl).cell (k * 5 + 1) (by rw [List.length_append, HDL.out]; simp <;> omega)]; simp [List.getElem_append, HDL.out])
  clear f0 f1 f2 f3 f4 f5
  have S16 := Lib.hid (show Sl.Sep W _ [_, _, _, Q, _, _, _] from Bag.take S15.out [0, 1, 2, 3, 4, 5, 7] (by rfl) (by decide))
  clear S15
  have S17 := Lib.hid (show Sl.Sep W _ [_, _, _, Q, _, Bag.bag ((rs_Op x.f_Ops_a x.f_Ops_c x.f_Ops) ++ (rs_Store ba bc bl)), Bag.bag ([])] from Bag.bag_join S16.out 5 6 (by decide) rfl rfl)
  clear S16
  have S18 := Lib.hid (show Sl.Sep W _ [_, _, _, Q, Bag.bag ((rws_Tx (zs.take k) ++ rws_Tx (zs.drop (k + 1))) ++ ((rs_Op x.f_Ops_a x.f_Ops_c x.f_Ops) ++ (rs_Store ba bc bl))), Bag.bag ([]), Bag.bag ([])] from Bag.bag_join S17.out 4 5 (by decide) rfl rfl)
  clear S17
  have HSET := Lib.hid (show zs.set k (⟨x.f_Id, x.f_Ops_a, x.f_Ops_c, x.f_Ops, x.f_At, 1, ba, bc, bl⟩ : Y_Tx) = zs.take k ++ (⟨x.f_Id, x.f_Ops_a, x.f_Ops_c, x.f_Ops, x.f_At, 1, ba, bc, bl⟩ : Y_Tx) :: zs.drop (k + 1) from by rw [List.set_eq_take_append_cons_drop, if_pos hkl])
  have S19 := Lib.hid (show Sl.Sep W _ [_, _, _, Q, _] from Bag.take S18.out [0, 1, 2, 3, 4] (by rfl) (by decide))
  clear S18
  have S20 := Lib.hid (show Sl.Sep W _ [L4.boxR g 98 #[.string z.f_Name, .int .i64 z.f_Version, .slice z.f_Stores_a z.f_Stores.length z.f_Stores_c, .slice z.f_Unique_a z.f_Unique.length z.f_Unique_c, .slice (some ⟨gq, 0, none⟩) N N], Bag.bag (rw_Database z), Sv.ownV 89 5 (some ⟨gq, 0, none⟩) N N (D0 ++ (.int .i64 x.f_Id :: .slice x.f_Ops_a x.f_Ops.length x.f_Ops_c :: .int .i64 x.f_At :: .int .i64 1 :: .slice ba bl.length bc :: R0)), Q, Bag.bag (rws_Tx (zs.set k (⟨x.f_Id, x.f_Ops_a, x.f_Ops_c, x.f_Ops, x.f_At, 1, ba, bc, bl⟩ : Y_Tx)))] from Bag.bag_perm S19.out 4 rfl (by rw [show rws_Tx (zs.set k (⟨x.f_Id, x.f_Ops_a, x.f_Ops_c, x.f_Ops, x.f_At, 1, ba, bc, bl⟩ : Y_Tx)) = ((zs.take k) ++ [(⟨x.f_Id, x.f_Ops_a, x.f_Ops_c, x.f_Ops, x.f_At, 1, ba, bc, bl⟩ : Y_Tx)]).flatMap rw_Tx ++ (zs.drop (k + 1)).flatMap rw_Tx from by rw [rws_Tx_eq, HSET.out, List.flatMap_append, List.flatMap_append, List.flatMap_cons, List.append_assoc]; simp]; exact V.flat_back (rw_ := rw_Tx) (zs.take k) (zs.drop (k + 1)) (⟨x.f_Id, x.f_Ops_a, x.f_Ops_c, x.f_Ops, x.f_At, 1, ba, bc, bl⟩ : Y_Tx)))
  clear S19
  have S21 := Lib.hid (show Sl.Sep W _ [_, _, Bag.bag ([row_Tx (some ⟨gq, 0, none⟩) N (zs.set k (⟨x.f_Id, x.f_Ops_a, x.f_Ops_c, x.f_Ops, x.f_At, 1, ba, bc, bl⟩ : Y_Tx))]), Q, _] from Bag.bag_of_one S20.out 2 (r := row_Tx (some ⟨gq, 0, none⟩) N (zs.set k (⟨x.f_Id, x.f_Ops_a, x.f_Ops_c, x.f_Ops, x.f_At, 1, ba, bc, bl⟩ : Y_Tx))) (by unfold RowS.res row_Tx; dsimp only; rw [List.length_set, ← HN.out, HSET.out, List.flatMap_append, List.flatMap_cons, ← HD0.out, ← HR0.out]; rfl))
  clear S20
  have S22 := Lib.hid (show Sl.Sep W _ [_, _, Bag.bag ([row_Tx (some ⟨gq, 0, none⟩) N (zs.set k (⟨x.f_Id, x.f_Ops_a, x.f_Ops_c, x.f_Ops, x.f_At, 1, ba, bc, bl⟩ : Y_Tx))] ++ (rws_Tx (zs.set k (⟨x.f_Id, x.f_Ops_a, x.f_Ops_c, x.f_Ops, x.f_At, 1, ba, bc, bl⟩ : Y_Tx)))), Q, Bag.bag ([])] from Bag.bag_join S21.out 2 4 (by decide) rfl rfl)
  clear S21
  have S23 := Lib.hid (show Sl.Sep W _ [_, _, _, Q] from Bag.take S22.out [0, 1, 2, 3] (by rfl) (by decide))
  clear S22
  obtain ⟨f0, f1, f2, f3, f4⟩ := Bag.cs5 S23.out 0 rfl
  go_wp2_with fail
  go_ret
  refine ⟨zs.set k (⟨x.f_Id, x.f_Ops_a, x.f_Ops_c, x.f_Ops, x.f_At, 1, ba, bc, bl⟩ : Y_Tx), by rw [List.length_set]; exact HN.out.symm, rfl, ?_, S23.out⟩
  rw [HSX.out, coS_Tx_eq, coS_Tx_eq, List.map_set]
  exact congrArg (fun u => List.set _ k u) (by unfold stT; rw [← HNS.out] at HCB; exact congrArg (X_Tx.mk _ _ _ _) HCB.out)
set_option maxHeartbeats 8000000 in
theorem startTx_any (z : Y_Database) (hf : FitD (co_Database z)) (a : Option Addr) (c : Nat) (ts : List Y_Tx) (hl : ts.length ≤ 1048576) (hft : ∀ t ∈ coS_Tx ts, FitT t) (i : Int) (w : World) (hr : RowsRd w w.heap.size (rw_Database z)) (hrt : Reads w w.heap.size a (ts.flatMap cl_Tx)) (hxt : RowsRd w w.heap.size (rws_Tx ts)) :
  Calls Tryz.prog 24 #[vv_Database z, .agg #[.slice a ts.length c], .int .i64 i] w (GaveQB w (stX (co_Database z) (coS_Tx ts) i) (csQ (coS_Tx ts) i)) := by
 have HNT := Lib.hid (fun w' (h : Below w.heap.size w w') => newTxRun_any z hf a c ts hl hft w' ((hr.below h).more h.size) ((hrt.below h).more h.size) ((hxt.below h).more h.size))
 have HF := Lib.hid hf
 have HFT := Lib.hid (And.intro hl hft)
 obtain ⟨name, ver, sa, sc, ss, ua, uc, us⟩ := z
 unfold GaveRun vv_Database at HNT
 unfold co_Database at HNT HF
 unfold vv_Database co_Database
 try dsimp only at HNT HF ⊢
 rw [show coS_IndexDef us = us from rfl] at HNT HF
 try rw [show coS_IndexDef us = us from rfl]
 clear hr hrt hxt hf hl hft
 obtain ⟨RX, hRX⟩ : ∃ x, stX ⟨name, ver, coS_Store ss, us⟩ (coS_Tx ts) i = x := ⟨_, rfl⟩
 obtain ⟨RB, hRB⟩ : ∃ x, csQ (coS_Tx ts) i = x := ⟨_, rfl⟩
 rw [hRX, hRB]
 have HRR := Lib.hid (And.intro hRX hRB)
 clear hRX hRB
 have S1 := Lib.hid (show Sl.Sep w _ [_, _, _] from L4.push_box (L4.push_box (L4.push_box (Sl.Sep.start w) 33 #[.string name, .int .i64 ver, .slice sa ss.length sc, .slice ua us.length uc] (w.heap.size) (by simp)) 56 #[.slice a ts.length c] (w.heap.size + 1) (by simp)) 56 #[.slice none 0 0] (w.heap.size + 1 + 1) (by simp))
 obtain ⟨wa, hwa⟩ : ∃ w_, w_ = (((w.alloc (.cells #[.string name, .int .i64 ver, .slice sa ss.length sc, .slice ua us.length uc] 33)).alloc (.cells #[.slice a ts.length c] 56)).alloc (.cells #[.slice none 0 0] 56)) := ⟨_, rfl⟩
 rw [← hwa] at S1
 go_enter Tryz.func24, Tryz.ntmps24
 go_upto_region 1 with fail
 rw [← hwa]
 clear hwa
 obtain ⟨f0, f1, f2, f3⟩ := Bag.cs4 S1.out 0 rfl
 have f4 := Bag.cs1 S1.out 1 rfl
 go_wp2_with fail
 go_at_call 55
 refine (HNT.out _ S1.out.old).mono ?_
 rintro e w3 ⟨g, gs, gu, gq, ys, zs, rfl, hcy, hcz, hS⟩
 clear f0 f1 f2 f3 f4
 have S2 := Lib.hid (show Sl.Sep w _ [_, _, _, L4.boxR g 98 #[.string name, .int .i64 ver, .slice (some ⟨gs, 0, none⟩) ys.length ys.length, .slice (some ⟨gu, 0, none⟩) us.length us.length, .slice (some ⟨gq, 0, none⟩) zs.length zs.length], Bag.bag ((row_Store (some ⟨gs, 0, none⟩) ys.length ys :: rws_Store ys) ++ [row_IndexDef (some ⟨gu, 0, none⟩) us.length us]), Bag.bag (rs_Tx (some ⟨gq, 0, none⟩) zs.length zs)] from Run.sep_join S1.out hS)
 clear S1
 clear hS
 have HCY := Lib.hid hcy
 have HCZ := Lib.hid hcz
 clear hcy hcz
 have HZL := Lib.hid (show zs.length = ts.length from by have h := congrArg List.length HCZ.out; rwa [coT_len, coT_len] at h)
 have S3 := Lib.hid (show Sl.Sep w _ [_, _, _, _, _, _] from Bag.take S2.out [3, 4, 5, 0, 1, 2] (by rfl) (by decide))
 clear S2
 have S4 := Lib.hid (show Sl.Sep w _ [L4.boxR g 98 #[.string name, .int .i64 ver, .slice (some ⟨gs, 0, none⟩) ys.length ys.length, .slice (some ⟨gu, 0, none⟩) us.length us.length, .slice (some ⟨gq, 0, none⟩) zs.length zs.length], Bag.bag ((row_Store (some ⟨gs, 0, none⟩) ys.length ys :: rws_Store ys) ++ [row_IndexDef (some ⟨gu, 0, none⟩) us.length us]), Bag.bag (rs_Tx (some ⟨gq, 0, none⟩) zs.length zs), Run.allR [L4.boxR w.heap.size 33 #[.string name, .int .i64 ver, .slice sa ss.length sc, .slice ua us.length uc], L4.boxR (w.heap.size + 1) 56 #[.slice a ts.length c], L4.boxR (w.heap.size + 1 + 1) 56 #[.slice none 0 0]]] from Run.packR (us := [L4.boxR g 98 #[.string name, .int .i64 ver, .slice (some ⟨gs, 0, none⟩) ys.length ys.length, .slice (some ⟨gu, 0, none⟩) us.length us.length, .slice (some ⟨gq, 0, none⟩) zs.length zs.length], Bag.bag ((row_Store (some ⟨gs, 0, none⟩) ys.length ys :: rws_Store ys) ++ [row_IndexDef (some ⟨gu, 0, none⟩) us.length us]), Bag.bag (rs_Tx (some ⟨gq, 0, none⟩) zs.length zs)]) S3.out)
 clear S3
 have HST := Lib.hid (start_sep (⟨name, ver, some ⟨gs, 0, none⟩, ys.length, ys, some ⟨gu, 0, none⟩, us.length, us⟩ : Y_Database) (show L8.FitD ⟨name, ver, coS_Store ys, us⟩ from by rw [HCY.out]; exact HF.out) g gq zs (by rw [HZL.out]; exact HFT.out.1) (by rw [HCZ.out]; exact HFT.out.2) i _ S4.out)
 go_wp2_with fail
 go_at_call 56
 refine HST.out.mono ?_
 rintro e w4 ⟨zs', hzl, rfl, hzc, hS⟩
 clear HST
 have S5 := Lib.hid (show Sl.Sep w _ [_, _, Bag.bag (rs_Tx (some ⟨gq, 0, none⟩) zs.length zs'), _] from hS)
 clear S4
 clear hS
 have HZC := Lib.hid hzc
 have HZL2 := Lib.hid hzl
 clear hzc hzl
 have S6 := Lib.hid (show Sl.Sep w _ [L4.boxR g 98 #[.string name, .int .i64 ver, .slice (some ⟨gs, 0, none⟩) ys.length ys.length, .slice (some ⟨gu, 0, none⟩) us.length us.length, .slice (some ⟨gq, 0, none⟩) zs.length zs.length], Bag.bag ((row_Store (some ⟨gs, 0, none⟩) ys.length ys :: rws_Store ys) ++ [row_IndexDef (some ⟨gu, 0, none⟩) us.length us]), Bag.bag (rs_Tx (some ⟨gq, 0, none⟩) zs.length zs'), L4.boxR w.heap.size 33 #[.string name, .int .i64 ver, .slice sa ss.length sc, .slice ua us.length uc], L4.boxR (w.heap.size + 1) 56 #[.slice a ts.length c], L4.boxR (w.heap.size + 1 + 1) 56 #[.slice none 0 0]] from Run.unpackR (us := [L4.boxR g 98 #[.string name, .int .i64 ver, .slice (some ⟨gs, 0, none⟩) ys.length ys.length, .slice (some ⟨gu, 0, none⟩) us.length us.length, .slice (some ⟨gq, 0, none⟩) zs.length zs.length], Bag.bag ((row_Store (some ⟨gs, 0, none⟩) ys.length ys :: rws_Store ys) ++ [row_IndexDef (some ⟨gu, 0, none⟩) us.length us]), Bag.bag (rs_Tx (some ⟨gq, 0, none⟩) zs.length zs')]) S5.out)
 clear S5
 obtain ⟨f0, f1, f2, f3, f4⟩ := Bag.cs5 S6.out 0 rfl
 have f5 := Bag.cs1 S6.out 5 rfl
 have z0 := Bag.free_at S6.out 5 rfl 0
 go_wp2_with fail
 clear f0 f1 f2 f3 f4 f5 z0
 have S7 := Lib.hid (show Sl.Sep w _ [_, _, _, _, _, L4.boxR (w.heap.size + 1 + 1) 56 #[.slice (some ⟨gq, 0, none⟩) zs.length zs.length]] from L5.put_box5 (S6.out) 5 rfl 0 (.slice (some ⟨gq, 0, none⟩) zs.length zs.length))
 clear S6
 have f0 := Bag.cs1 S7.out 5 rfl
 refine bodyPost_ret (v := .tuple #[.agg #[.slice (some ⟨gq, 0, none⟩) zs.length zs.length], .bool (csQ (coS_Tx zs) i)]) (by simp [results, Tryz.results24, go_sem, *]) rfl ?_
 clear f0
 exact ⟨some ⟨gq, 0, none⟩, zs.length, zs', by rw [HZL2.out, HCZ.out, HRR.out.2], by rw [HZC.out, HCZ.out, ← HRR.out.1]; unfold co_Database; dsimp only; rw [HCY.out]; rfl, Bag.bag_from S7.out 2 rfl, S7.out.old⟩
end Go.Proofs.YthljdhfgphebnaaGreat.L10

