/-
  The contracts of the library's slices.DeleteFunc over items, and of chapter 6's DeleteItems of the program. Conditions: keys' texts of at most 2^40 bytes, at most 2^20 fields and items. (Written by my program gen_l6n.py.)
-/
import Derived.Test.YtkfejjoehgipmaaTk
import Derived.Test.YtkfejjoehgipmaaL6Ib
import Derived.Test.YtkfejjoehgipmaaL6Ic
import Derived.Test.YtkfejjoehgipmaaL5Rd
import Derived.Test.YtkfejjoehgipmaaL6Sx
import Derived.Test.YtkfejjoehgipmaaL4Im6
import Derived.Test.YtkfejjoehgipmaaRst
namespace Go.Proofs.Ytkfejjoehgipmaa.L6
set_option maxRecDepth 100000
open L4 (K isK cmpK R inR encU)
open L5 (F isR isN cellsF encR eqR Small)
open Go.ChangeShapes Go.WideShapes Go.ChangeAt Go.RowKit Mem Sl Ex L2 Sv Bag
set_option linter.unusedVariables false
set_option linter.unusedSimpArgs false

def TestsC (Fn g : Nat) (f : It → Bool) (xs : List LI) (w : World) : Prop :=
  ∀ x ∈ xs, ∀ w', w.heap.size ≤ w'.heap.size → w'.heap[g]? = w.heap[g]? → Calls Try.prog Fn #[.agg #[.int .i64 x.k.kind, .int .i64 x.k.n, .string x.k.text, .slice x.a x.l.length x.c], .pointer (some ⟨g, 0, none⟩)] w' fun e w'' => e = .returned (.bool (f x.con)) ∧ Below w'.heap.size w' w''
theorem TestsC.below {Fn g : Nat} {f : It → Bool} {xs : List LI} {w : World} (h : TestsC Fn g f xs w) (hg : g < w.heap.size) : Tests Fn g f xs w := fun x hx w' hb => h x hx w' hb.size (hb.block g hg)
def keptL (f : It → Bool) (ys : List LI) : List LI := ys.filter fun x => !f x.con
theorem keptL_take {f : It → Bool} {ys : List LI} {j : Nat} {x : LI} (h : ys[j]? = some x) : keptL f (ys.take (j + 1)) = keptL f (ys.take j) ++ (if f x.con then [] else [x]) := by
  obtain ⟨hj, rfl⟩ := List.getElem?_eq_some_iff.1 h
  unfold keptL
  rw [List.take_succ_eq_append_getElem hj, List.filter_append]
  congr 1
  by_cases h1 : f ys[j].con = true
  · simp [h1]
  · simp [h1]
theorem keptL_all {f : It → Bool} {ys : List LI} (h : ∀ j (hj : j < (conI ys).length), f (conI ys)[j] = false) : keptL f ys = ys := by
  unfold keptL
  rw [List.filter_eq_self]
  intro x hx
  obtain ⟨j, hj, rfl⟩ := List.getElem_of_mem hx
  have := h j (by rw [conI_length]; exact hj)
  rw [conI_get ys j hj] at this
  rw [this]
  rfl
theorem ixP_cases (f : It → Bool) (xs : List It) : (ixP f xs = -1 ∧ ∀ j (hj : j < xs.length), f xs[j] = false) ∨ ∃ i : Nat, ixP f xs = i ∧ ∃ hi : i < xs.length, f xs[i] = true ∧ ∀ j (hj : j < xs.length), j < i → f xs[j] = false := by
  unfold ixP
  cases h : xs.findIdx? f with
  | none =>
    rw [List.findIdx?_eq_none_iff] at h
    exact .inl ⟨rfl, fun j hj => by simpa using h _ (List.getElem_mem hj)⟩
  | some i =>
    rw [List.findIdx?_eq_some_iff_getElem] at h
    obtain ⟨hi, h1, h2⟩ := h
    exact .inr ⟨i, rfl, hi, h1, fun j hj hji => by simpa using h2 j hji⟩
theorem keptL_con (f : It → Bool) (ys : List LI) : conI (keptL f ys) = (conI ys).filter fun x => !f x := by
  unfold conI keptL
  rw [List.filter_map]
  rfl

theorem zero_one (n : Nat) : ∀ v ∈ (Builtin.zeroCells (Value.agg #[.int .i64 0, .int .i64 0, .string ⟨#[]⟩, .slice none 0 0]).cells n).toList, v.oneCell' = true := by
  intro v hv
  simp only [Builtin.zeroCells, Array.toList_map, List.mem_map] at hv
  obtain ⟨j, _, rfl⟩ := hv
  have h4 : j % (Value.agg #[.int .i64 0, .int .i64 0, .string ⟨#[]⟩, .slice none 0 0]).cells.size < 4 := Nat.mod_lt _ (by decide)
  generalize j % (Value.agg #[.int .i64 0, .int .i64 0, .string ⟨#[]⟩, .slice none 0 0]).cells.size = q at h4
  rcases (show q = 0 ∨ q = 1 ∨ q = 2 ∨ q = 3 by omega) with rfl | rfl | rfl | rfl <;> rfl
set_option maxHeartbeats 8000000 in
theorem deleteFuncI_any (g gc c : Nat) (f : It → Bool) (ys : List LI) (hl : ys.length ≤ 1048576) (W w : World) (S : Sl.Sep W w [Sv.ownV 40 4 (some ⟨g, 0, none⟩) c ys.length (cellsI ys), Run.restR W w g]) (hgc : gc < w.heap.size) (hne : gc ≠ g) (ht : TestsC 83 gc f ys w) :
    Calls Try.prog 82 #[.slice (some ⟨g, 0, none⟩) ys.length c, .func (.func 83) #[] #[.pointer (some ⟨gc, 0, none⟩)]] w fun e w' => ∃ zs, e = .returned (.slice (some ⟨g, 0, none⟩) zs.length c) ∧ zs = keptL f ys ∧ Sl.Sep W w' [Sv.ownV 40 4 (some ⟨g, 0, none⟩) c zs.length (cellsI zs), Run.restR W w g] := by
  obtain ⟨i0', hi1, hi2, hi3, hi4⟩ := itemInfo
  have HI := Lib.hid (And.intro hi1 (And.intro hi2 (And.intro hi3 hi4)))
  clear hi1 hi2 hi3 hi4
  have HB0 := Lib.hid S.old
  have HT := Lib.hid ht
  have HTB := Lib.hid (ht.below hgc)
  have HG := Lib.hid (show gc < w.heap.size ∧ gc ≠ g from ⟨hgc, hne⟩)
  obtain ⟨N, hN⟩ : ∃ n, n = ys.length := ⟨_, rfl⟩
  rw [← hN] at S hl
  have hl' : (N : Int) ≤ 1048576 := by omega
  have HN := Lib.hid hN
  have HCN := Lib.hid (Sv.own_at S 0 rfl).cap
  have HIX := Lib.hid (indexFuncB_any gc f (some ⟨g, 0, none⟩) c ys (by omega) w (Sv.own_at S 0 rfl).reads HTB.out)
  rw [← hN] at HIX ⊢
  have S1 := Lib.hid S
  clear hN S ht
  go_enter Try.func82, Try.ntmps82
  go_wp2_with fail
  go_at_call 70
  refine (HIX.out).mono ?_
  rintro e w1 ⟨rfl, hb⟩
  have S2 := Lib.hid (show Sl.Sep W _ [Sv.ownV 40 4 (some ⟨g, 0, none⟩) c N (cellsI ys), Run.restR W w g] from S1.out.keep hb)
  clear S1
  clear hb
  rcases ixP_cases f (conI ys) with ⟨hix, hall⟩ | ⟨i0, hix, hi0, hfi, hbef⟩
  · rw [hix]
    have HA := Lib.hid (keptL_all hall)
    clear hix hall
    go_wp2_with fail
    go_ret
    exact ⟨keptL f ys, by rw [HA.out, ← HN.out]; rfl, rfl, by rw [HA.out, ← HN.out]; exact S2.out⟩
  · rw [hix]
    rw [conI_length] at hi0
    have hiN : i0 < N := by have := HN.out; omega
    have hiI : (i0 : Int) < (N : Int) := by omega
    have HK0 := Lib.hid (show keptL f (ys.take i0) = ys.take i0 from keptL_all (fun j hj => by
      rw [conI_length, List.length_take] at hj
      have h1 := hbef j (by rw [conI_length]; omega) (by omega)
      have h2 : (conI (ys.take i0))[j]'(by rw [conI_length, List.length_take]; omega) = (conI ys)[j]'(by rw [conI_length]; omega) := by rw [conI_get _ _ (by rw [List.length_take]; omega), conI_get _ _ (by omega), List.getElem_take]
      rw [h2]; exact h1))
    have HX0 := Lib.hid (show keptL f (ys.take (i0 + 1)) = ys.take i0 from by rw [keptL_take (List.getElem?_eq_getElem hi0), HK0.out]; rw [conI_get ys i0 hi0] at hfi; rw [hfi]; simp)
    clear hix hfi hbef
    have hne1 : ¬ (i0 : Int) = -1 := by omega
    have hne2 : ((i0 : Int) == -1) = false := beq_eq_false_iff_ne.2 hne1
    go_upto_region 5 with fail
    have HR0 := Lib.hid (show cellsI ys = cellsI (ys.take i0) ++ (cellsI [ys[i0]] ++ cellsI (ys.drop (i0 + 1))) from by rw [← cellsI_append, ← cellsI_append]; congr 1; rw [List.singleton_append, List.getElem_cons_drop, List.take_append_drop])
    have S3 := Lib.hid (show Sl.Sep W _ [Sv.ownV 40 4 (some ⟨g, 0, none⟩) c N (cellsI (ys.take i0) ++ (cellsI [ys[i0]] ++ cellsI (ys.drop (i0 + 1)))), Run.restR W w g] from (by have h := S2.out; rw [HR0.out] at h; exact h))
    clear S2
    go_loopw [5, 6] (fun u v wr => ∃ (m k : Nat) (zs : List LI) (Ms : List Value), u = .int .i64 m ∧ v = .int .i64 k ∧ m < k ∧ k ≤ N ∧ Hid ((zs = keptL f (ys.take k) ∧ zs.length = m ∧ Ms.length = (k - m) * 4) ∧ Sl.Sep W wr [Sv.ownV 40 4 (some ⟨g, 0, none⟩) c N (cellsI zs ++ (Ms ++ cellsI (ys.drop k))), Run.restR W w g])) (fun _ v _ => N - (intOf v).toNat)
    case atStart => exact ⟨i0, i0 + 1, ys.take i0, _, rfl, by go_num, by omega, by omega, And.intro ⟨HX0.out.symm, by rw [List.length_take]; omega, by rw [cellsI_length]; simp⟩ S3.out⟩
    case round =>
      obtain ⟨m, k, zs, Ms, rfl, rfl, hmk, hk, hrel⟩ := hrel
      have HC := Lib.hid hrel.out.1
      have S4 := Lib.hid hrel.out.2
      clear hrel S3
      have HZL := Lib.hid (show (cellsI zs).length = m * 4 by rw [cellsI_length, HC.out.2.1])
      by_cases hlt : (k : Int) < (N : Int)
      · skip
        have hkl : k < ys.length := by have := HN.out; omega
        obtain ⟨x, hx⟩ : ∃ x, x = ys[k] := ⟨_, rfl⟩
        have HX := Lib.hid (show ys[k]? = some x from by rw [hx]; exact List.getElem?_eq_getElem hkl)
        have HD := Lib.hid (show cellsI (ys.drop k) = cellsI [x] ++ cellsI (ys.drop (k + 1)) from by rw [← cellsI_append, List.singleton_append, hx, List.getElem_cons_drop])
        have HMEM := Lib.hid (show x ∈ ys from by rw [hx]; exact List.getElem_mem hkl)
        clear hx
        obtain ⟨⟨kd, n, t⟩, ia, ic, l⟩ := x
        skip
        obtain ⟨b, hb⟩ : ∃ b, f (LI.mk ⟨kd, n, t⟩ ia ic l).con = b := ⟨_, rfl⟩
        have HB := Lib.hid hb
        clear hb
        have HKT := Lib.hid (keptL_take (f := f) HX.out)
        rw [HB.out] at HKT
        have hrd := (Sv.own_at S4.out 0 rfl).reads
        rw [← List.append_assoc, HD.out] at hrd
        have hrd2 := Run.reads_app hrd
        rw [List.length_append, HZL.out, HC.out.2.2, show 0 + (m * 4 + (k - m) * 4) = k * 4 by omega] at hrd2
        obtain ⟨f0, f1, f2, f3⟩ := Run.reads_four hrd2
        clear hrd hrd2
        go_upto_region 8 with fail
        clear f0 f1 f2 f3
        have S5 := Lib.hid (show Sl.Sep W _ [Sv.ownV 40 4 (some ⟨g, 0, none⟩) c N (cellsI zs ++ (Ms ++ cellsI (ys.drop k))), Run.restR W w g, L4.boxR wr.heap.size 40 #[.int .i64 kd, .int .i64 n, .string t, .slice ia l.length ic]] from L4.push_box S4.out 40 #[.int .i64 kd, .int .i64 n, .string t, .slice ia l.length ic] wr.heap.size rfl)
        clear S4
        obtain ⟨g1, hg⟩ : ∃ g', g' = wr.heap.size := ⟨_, rfl⟩
        rw [← hg] at S5 ⊢
        clear hg
        generalize wr.alloc (.cells #[.int .i64 kd, .int .i64 n, .string t, .slice ia l.length ic] 40) = w2 at S5 ⊢
        have f0 : World.cell? _ ⟨g1, 0, none⟩ = some (.int .i64 kd) := Bag.cell_at S5.out 2 rfl 0 rfl
        have f1 : World.cell? _ ⟨g1, 1, none⟩ = some (.int .i64 n) := Bag.cell_at S5.out 2 rfl 1 rfl
        have f2 : World.cell? _ ⟨g1, 2, none⟩ = some (.string t) := Bag.cell_at S5.out 2 rfl 2 rfl
        have f3 : World.cell? _ ⟨g1, 3, none⟩ = some (.slice ia l.length ic) := Bag.cell_at S5.out 2 rfl 3 rfl
        have HCALL := HT.out _ HMEM.out w2 (Run.rest_turned HB0.out S5.out).size (Run.rest_block HB0.out S5.out gc HG.out.1 HG.out.2)
        rw [HB.out] at HCALL
        replace HCALL := Lib.hid HCALL
        go_wp2_with fail
        go_at_call 83
        refine (HCALL.out).mono ?_
        rintro e w3 ⟨rfl, hb⟩
        clear f0 f1 f2 f3
        have S6 := Lib.hid (show Sl.Sep W _ [Sv.ownV 40 4 (some ⟨g, 0, none⟩) c N (cellsI zs ++ (Ms ++ cellsI (ys.drop k))), Run.restR W w g, L4.boxR g1 40 #[.int .i64 kd, .int .i64 n, .string t, .slice ia l.length ic]] from S5.out.keep hb)
        clear S5
        clear hb
        have f0 : World.cell? _ ⟨g1, 0, none⟩ = some (.int .i64 kd) := Bag.cell_at S6.out 2 rfl 0 rfl
        have f1 : World.cell? _ ⟨g1, 1, none⟩ = some (.int .i64 n) := Bag.cell_at S6.out 2 rfl 1 rfl
        have f2 : World.cell? _ ⟨g1, 2, none⟩ = some (.string t) := Bag.cell_at S6.out 2 rfl 2 rfl
        have f3 : World.cell? _ ⟨g1, 3, none⟩ = some (.slice ia l.length ic) := Bag.cell_at S6.out 2 rfl 3 rfl
        clear HCALL
        cases b with
        | true =>
          clear f0 f1 f2 f3
          have S7 := Lib.hid (show Sl.Sep W _ [Sv.ownV 40 4 (some ⟨g, 0, none⟩) c N (cellsI zs ++ (Ms ++ cellsI (ys.drop k))), Run.restR W w g] from Bag.take S6.out [0, 1] (by rfl) (by decide))
          clear S6
          have S8 := Lib.hid (show Sl.Sep W _ [Sv.ownV 40 4 (some ⟨g, 0, none⟩) c N (cellsI zs ++ ((Ms ++ cellsI [⟨⟨kd, n, t⟩, ia, ic, l⟩]) ++ cellsI (ys.drop (k + 1)))), Run.restR W w g] from (by have h := S7.out; rw [HD.out, ← List.append_assoc Ms] at h; exact h))
          clear S7
          go_wp2_with fail
          go_roundw
          case rel => exact ⟨m, k + 1, zs, _, rfl, by go_num, by omega, by omega, And.intro ⟨by rw [HKT.out, HC.out.1]; simp, HC.out.2.1, by rw [List.length_append, cellsI_length, HC.out.2.2]; simp; omega⟩ S8.out⟩
          case measure => simp [intOf]; omega
        | false =>
          have hRl : m * 4 + 4 ≤ (cellsI zs ++ (Ms ++ cellsI (ys.drop k))).length := by rw [List.length_append, List.length_append, HZL.out, HC.out.2.2, HD.out, List.length_append, cellsI_length]; simp; omega
          have HRL := Lib.hid hRl
          clear hRl
          have hmN : (m : Int) < (N : Int) := by omega
          have q0 := (Sv.own_at S6.out 0 rfl).cell (m * 4) (by have := HRL.out; omega)
          have z0 := (Sv.own_at S6.out 0 rfl).free (m * 4)
          have q1 := (Sv.own_at S6.out 0 rfl).cell (m * 4 + 1) (by have := HRL.out; omega)
          have z1 := (Sv.own_at S6.out 0 rfl).free (m * 4 + 1)
          have q2 := (Sv.own_at S6.out 0 rfl).cell (m * 4 + 2) (by have := HRL.out; omega)
          have z2 := (Sv.own_at S6.out 0 rfl).free (m * 4 + 2)
          have q3 := (Sv.own_at S6.out 0 rfl).cell (m * 4 + 3) (by have := HRL.out; omega)
          have z3 := (Sv.own_at S6.out 0 rfl).free (m * 4 + 3)
          go_wp2_with fail
          clear f0 f1 f2 f3 q0 z0 q1 z1 q2 z2 q3 z3
          have S7 := Lib.hid (show Sl.Sep W ((((w3.setCell ⟨g, m * 4, none⟩ (.int .i64 kd)).setCell ⟨g, m * 4 + 1, none⟩ (.int .i64 n)).setCell ⟨g, m * 4 + 2, none⟩ (.string t)).setCell ⟨g, m * 4 + 3, none⟩ (.slice ia l.length ic)) [Sv.ownV 40 4 (some ⟨g, 0, none⟩) c N (cellsI (zs ++ [⟨⟨kd, n, t⟩, ia, ic, l⟩]) ++ ((Ms ++ cellsI [⟨⟨kd, n, t⟩, ia, ic, l⟩]).drop 4 ++ cellsI (ys.drop (k + 1)))), Run.restR W w g, L4.boxR g1 40 #[.int .i64 kd, .int .i64 n, .string t, .slice ia l.length ic]] from (by have h := Run.put_run S6.out 0 rfl (m * 4) [.int .i64 kd, .int .i64 n, .string t, .slice ia l.length ic] (by have := HRL.out; simpa using this); rw [Run.over_at _ _ _ _ HZL.out (by rw [HD.out, List.length_append, List.length_append, cellsI_length]; simp; omega), HD.out, ← List.append_assoc Ms, List.drop_append_of_le_length (by rw [List.length_append, cellsI_length]; simp)] at h; rw [cellsI_append, List.append_assoc]; exact h))
          clear S6
          have S8 := Lib.hid (show Sl.Sep W _ [Sv.ownV 40 4 (some ⟨g, 0, none⟩) c N (cellsI (zs ++ [⟨⟨kd, n, t⟩, ia, ic, l⟩]) ++ ((Ms ++ cellsI [⟨⟨kd, n, t⟩, ia, ic, l⟩]).drop 4 ++ cellsI (ys.drop (k + 1)))), Run.restR W w g] from Bag.take S7.out [0, 1] (by rfl) (by decide))
          clear S7
          go_roundw
          case rel => exact ⟨m + 1, k + 1, zs ++ [⟨⟨kd, n, t⟩, ia, ic, l⟩], (Ms ++ cellsI [⟨⟨kd, n, t⟩, ia, ic, l⟩]).drop 4, by go_num, by go_num, by omega, by omega, And.intro ⟨by rw [HKT.out, HC.out.1]; simp, by rw [List.length_append, HC.out.2.1]; rfl, by rw [List.length_drop, List.length_append, cellsI_length, HC.out.2.2]; simp <;> omega⟩ S8.out⟩
          case measure => simp [intOf]; omega
      · skip
        obtain rfl : k = N := by omega
        have hcN : k ≤ c := HCN.out
        have hcm : ¬ c = m := by omega
        have hmc : (m : Int) ≤ (c : Int) := by omega
        have hkc : (k : Int) ≤ (c : Int) := by omega
        have hmk2 : (m : Int) ≤ (k : Int) := by omega
        have hdk : cellsI (ys.drop k) = [] := by rw [List.drop_of_length_le (by have := HN.out; omega)]; rfl
        have S5 := Lib.hid (show Sl.Sep W _ [Sv.ownV 40 4 (some ⟨g, 0, none⟩) c k (cellsI zs ++ Ms), Run.restR W w g] from (by have h := S4.out; rw [hdk, List.append_nil] at h; exact h))
        clear S4
        clear hdk
        obtain ⟨Zs, hZs⟩ : ∃ Z, Z = (Builtin.zeroCells (Value.agg #[.int .i64 0, .int .i64 0, .string ⟨#[]⟩, .slice none 0 0]).cells (k - m)).toList := ⟨_, rfl⟩
        have HZS := Lib.hid (show Zs.length = (k - m) * 4 by rw [hZs, Array.length_toList, size_zeroCells]; rfl)
        have hRl : m * 4 + (k - m) * 4 ≤ (cellsI zs ++ Ms).length := by rw [List.length_append, HZL.out, HC.out.2.2]; omega
        have hcl := fun ty cc => Run.run_clear_rows (P := Try.prog) wr 24 40 ty i0' (.agg #[.int .i64 0, .int .i64 0, .string ⟨#[]⟩, .slice none 0 0]) g (m * 4) (k - m) cc Try.underlying24 HI.out.1 HI.out.2.1 (fun j hj => by rw [(Sv.own_at S5.out 0 rfl).cell (m * 4 + j) (by simp [Value.cells] at hj; omega)]; rfl) (fun j _ => (Sv.own_at S5.out 0 rfl).free (m * 4 + j)) (zero_one (k - m))
        rw [← hZs] at hcl
        clear hZs
        obtain ⟨w8, hw⟩ : ∃ u, u = World.setCells wr g (m * 4) Zs := ⟨_, rfl⟩
        rw [← hw] at hcl
        have HW := Lib.hid hw
        have HRL := Lib.hid hRl
        clear hw hRl
        go_wp2_with fail
        have S6 := Lib.hid (show Sl.Sep W _ [Sv.ownV 40 4 (some ⟨g, 0, none⟩) c k (cellsI zs ++ Zs), Run.restR W w g] from (by have h := Run.put_run S5.out 0 rfl (m * 4) Zs (by rw [HZS.out]; exact HRL.out); rw [← HW.out, Run.over_at _ _ _ _ HZL.out (by rw [HZS.out, HC.out.2.2]; exact Nat.le_refl _), List.drop_of_length_le (by rw [HC.out.2.2, HZS.out]; exact Nat.le_refl _), List.append_nil] at h; exact h))
        clear S5
        go_ret
        have S90 := Run.shorter S6.out 0 rfl m (by omega)
        rw [List.take_left' HZL.out] at S90
        have hz := HC.out.1
        rw [List.take_of_length_le (by have := HN.out; omega)] at hz
        have hm := HC.out.2.1
        subst hm
        exact ⟨zs, rfl, hz, S90⟩
set_option maxHeartbeats 4000000 in
theorem deleteItems1_any (kd n : Int) (t : ByteArray) (ia : Option Addr) (ln ic g : Nat) (r : R) (ht : t.size ≤ 1099511627776) (hr1 : r.lo.text.size ≤ 281474976710656) (hr2 : r.hi.text.size ≤ 281474976710656) (w : World) (hg : g < w.heap.size) (hrow : Row w g 45 r.cells) :
    Calls Try.prog 83 #[.agg #[.int .i64 kd, .int .i64 n, .string t, .slice ia ln ic], .pointer (some ⟨g, 0, none⟩)] w fun e w' => e = .returned (.bool (inR ⟨kd, n, t⟩ r)) ∧ Below w.heap.size w w' := by
  obtain ⟨rl, rh, ⟨lk, ln0, lt⟩, ⟨gk, gn, gt⟩⟩ := r
  obtain ⟨b, hb⟩ : ∃ b, inR ⟨kd, n, t⟩ ⟨rl, rh, ⟨lk, ln0, lt⟩, ⟨gk, gn, gt⟩⟩ = b := ⟨_, rfl⟩
  have HIN := fun w => L4.implInRangeOf_any ⟨kd, n, t⟩ ⟨rl, rh, ⟨lk, ln0, lt⟩, ⟨gk, gn, gt⟩⟩ (by show t.size ≤ _; omega) hr1 hr2 w
  rw [hb] at HIN ⊢
  clear hb
  replace HIN := Lib.hid HIN
  dsimp only [L4.R.cells] at hrow
  unfold L4.R.v at HIN
  dsimp only at HIN
  have HK := Lib.hid (fun w' (h : Below w.heap.size w w') => (⟨by rw [(Row.below hrow h hg).cell]; rfl, by rw [(Row.below hrow h hg).cell]; rfl, by rw [(Row.below hrow h hg).cell]; rfl, by rw [(Row.below hrow h hg).cell]; rfl, by rw [(Row.below hrow h hg).cell]; rfl, by rw [(Row.below hrow h hg).cell]; rfl, by rw [(Row.below hrow h hg).cell]; rfl, by rw [(Row.below hrow h hg).cell]; rfl⟩ : w'.cell? ⟨g, 0, none⟩ = some (.bool rl) ∧ w'.cell? ⟨g, 1, none⟩ = some (.bool rh) ∧ w'.cell? ⟨g, 2, none⟩ = some (.int .i64 lk) ∧ w'.cell? ⟨g, 3, none⟩ = some (.int .i64 ln0) ∧ w'.cell? ⟨g, 4, none⟩ = some (.string lt) ∧ w'.cell? ⟨g, 5, none⟩ = some (.int .i64 gk) ∧ w'.cell? ⟨g, 6, none⟩ = some (.int .i64 gn) ∧ w'.cell? ⟨g, 7, none⟩ = some (.string gt)))
  clear hrow
  have S1 := Lib.hid (show Sl.Sep w (w.alloc (.cells #[.int .i64 kd, .int .i64 n, .string t, .slice ia ln ic] 40)) [L4.boxR w.heap.size 40 #[.int .i64 kd, .int .i64 n, .string t, .slice ia ln ic]] from L4.push_box (Sl.Sep.start w) 40 #[.int .i64 kd, .int .i64 n, .string t, .slice ia ln ic] (w.heap.size) (by simp))
  obtain ⟨wa, hwa⟩ : ∃ u, u = (w.alloc (.cells #[.int .i64 kd, .int .i64 n, .string t, .slice ia ln ic] 40)) := ⟨_, rfl⟩
  rw [← hwa] at S1
  go_enter Try.func83, Try.ntmps83
  go_upto_region 1 with fail
  rw [← hwa]
  clear hwa
  have f0 : World.cell? _ ⟨w.heap.size, 0, none⟩ = some (.int .i64 kd) := Bag.cell_at S1.out 0 rfl 0 rfl
  have f1 : World.cell? _ ⟨w.heap.size, 1, none⟩ = some (.int .i64 n) := Bag.cell_at S1.out 0 rfl 1 rfl
  have f2 : World.cell? _ ⟨w.heap.size, 2, none⟩ = some (.string t) := Bag.cell_at S1.out 0 rfl 2 rfl
  have f3 : World.cell? _ ⟨w.heap.size, 3, none⟩ = some (.slice ia ln ic) := Bag.cell_at S1.out 0 rfl 3 rfl
  have f4 : World.cell? _ (⟨g, 0, none⟩) = some (.bool rl) := (HK.out _ S1.out.old).1
  have f5 : World.cell? _ (⟨g, 1, none⟩) = some (.bool rh) := (HK.out _ S1.out.old).2.1
  have f6 : World.cell? _ (⟨g, 2, none⟩) = some (.int .i64 lk) := (HK.out _ S1.out.old).2.2.1
  have f7 : World.cell? _ (⟨g, 3, none⟩) = some (.int .i64 ln0) := (HK.out _ S1.out.old).2.2.2.1
  have f8 : World.cell? _ (⟨g, 4, none⟩) = some (.string lt) := (HK.out _ S1.out.old).2.2.2.2.1
  have f9 : World.cell? _ (⟨g, 5, none⟩) = some (.int .i64 gk) := (HK.out _ S1.out.old).2.2.2.2.2.1
  have f10 : World.cell? _ (⟨g, 6, none⟩) = some (.int .i64 gn) := (HK.out _ S1.out.old).2.2.2.2.2.2.1
  have f11 : World.cell? _ (⟨g, 7, none⟩) = some (.string gt) := (HK.out _ S1.out.old).2.2.2.2.2.2.2
  go_wp2_with fail
  go_at_call 84
  refine (HIN.out _).mono ?_
  rintro e w1 ⟨rfl, hb⟩
  clear f0 f1 f2 f3 f4 f5 f6 f7 f8 f9 f10 f11
  have S2 := Lib.hid (show Sl.Sep w _ [L4.boxR w.heap.size 40 #[.int .i64 kd, .int .i64 n, .string t, .slice ia ln ic]] from S1.out.keep hb)
  clear S1
  clear hb
  have f0 : World.cell? _ ⟨w.heap.size, 0, none⟩ = some (.int .i64 kd) := Bag.cell_at S2.out 0 rfl 0 rfl
  have f1 : World.cell? _ ⟨w.heap.size, 1, none⟩ = some (.int .i64 n) := Bag.cell_at S2.out 0 rfl 1 rfl
  have f2 : World.cell? _ ⟨w.heap.size, 2, none⟩ = some (.string t) := Bag.cell_at S2.out 0 rfl 2 rfl
  have f3 : World.cell? _ ⟨w.heap.size, 3, none⟩ = some (.slice ia ln ic) := Bag.cell_at S2.out 0 rfl 3 rfl
  have f4 : World.cell? _ (⟨g, 0, none⟩) = some (.bool rl) := (HK.out _ S2.out.old).1
  have f5 : World.cell? _ (⟨g, 1, none⟩) = some (.bool rh) := (HK.out _ S2.out.old).2.1
  have f6 : World.cell? _ (⟨g, 2, none⟩) = some (.int .i64 lk) := (HK.out _ S2.out.old).2.2.1
  have f7 : World.cell? _ (⟨g, 3, none⟩) = some (.int .i64 ln0) := (HK.out _ S2.out.old).2.2.2.1
  have f8 : World.cell? _ (⟨g, 4, none⟩) = some (.string lt) := (HK.out _ S2.out.old).2.2.2.2.1
  have f9 : World.cell? _ (⟨g, 5, none⟩) = some (.int .i64 gk) := (HK.out _ S2.out.old).2.2.2.2.2.1
  have f10 : World.cell? _ (⟨g, 6, none⟩) = some (.int .i64 gn) := (HK.out _ S2.out.old).2.2.2.2.2.2.1
  have f11 : World.cell? _ (⟨g, 7, none⟩) = some (.string gt) := (HK.out _ S2.out.old).2.2.2.2.2.2.2
  go_wp2_with fail
  go_ret
  exact ⟨rfl, S2.out.old⟩
set_option maxHeartbeats 8000000 in
theorem deleteItems_any (y : LS) (r : R) (hf : FitS y.con) (hr1 : r.lo.text.size ≤ 281474976710656) (hr2 : r.hi.text.size ≤ 281474976710656) (w : World) (hr : RowsRd w w.heap.size y.rows) :
    Calls Try.prog 26 #[y.v, r.v] w (GaveSN w (delS y.con r) (delN y.con r)) := by
  have HR1 := Lib.hid hr1
  have HR2 := Lib.hid hr2
  obtain ⟨rl, rh, ⟨lk, ln, lt⟩, ⟨gk, gn, gt⟩⟩ := r
  unfold L4.R.v
  dsimp only at *
  have HIS := Lib.hid (fun w' (h : Below w.heap.size w w') => isStore_any y hf w' ((hr.below h).more h.size))
  have HCP := Lib.hid (fun w' (h : Below w.heap.size w w') => copyStore_full y hf w' ((hr.below h).more h.size))
  obtain ⟨name, a, c, xs, auto⟩ := y
  have HR := Lib.hid (fun w' (h : Below w.heap.size w w') => LS.outer (hr.below h))
  have HX := Lib.hid (fun w' (h : Below w.heap.size w w') => (LS.inner (hr.below h)).more h.size)
  have HF := Lib.hid hf.items
  have HNM := Lib.hid hf.name
  have hl := hf.len
  simp only [LS.con, conI_length] at hl
  dsimp only [LS.con] at HR HX HF HNM
  try unfold LS.v LS.cells LS.con
  try dsimp only
  obtain ⟨N, hN⟩ : ∃ n, n = xs.length := ⟨_, rfl⟩
  rw [← hN] at hl ⊢
  have hl' : (N : Int) ≤ 1048576 := by omega
  have HN := Lib.hid hN
  clear hN hr hf
  dsimp only [LS.v, LS.cells, LS.con] at HIS HCP
  rw [← HN.out] at HIS HCP
  obtain ⟨bs, hbs⟩ : ∃ b, isS ⟨name, conI xs, auto⟩ = b := ⟨_, rfl⟩
  rw [hbs] at HIS
  have HBS := Lib.hid hbs
  have HD := Lib.hid (show (delS ⟨name, conI xs, auto⟩ ⟨rl, rh, ⟨lk, ln, lt⟩, ⟨gk, gn, gt⟩⟩ = if bs then ⟨name, outI (conI xs) ⟨rl, rh, ⟨lk, ln, lt⟩, ⟨gk, gn, gt⟩⟩, auto⟩ else ⟨name, conI xs, auto⟩) ∧ delN ⟨name, conI xs, auto⟩ ⟨rl, rh, ⟨lk, ln, lt⟩, ⟨gk, gn, gt⟩⟩ = if bs then ((N : Int) - (outI (conI xs) ⟨rl, rh, ⟨lk, ln, lt⟩, ⟨gk, gn, gt⟩⟩).length) else 0 from by unfold delS delN; rw [hbs, HN.out]; simp)
  clear hbs
  have hmf : ∀ (fn : Fn) (first cap : Array Value) (w : World), (Instr.makeFunc fn first cap).run Try.prog w = .ok (.func fn first cap) w := fun _ _ _ _ => rfl
  have S1 := Lib.hid (show Sl.Sep w (((w.alloc (.cells #[.string name, .slice a N c, .int .i64 auto] 26)).alloc (.cells #[.bool rl, .bool rh, .int .i64 lk, .int .i64 ln, .string lt, .int .i64 gk, .int .i64 gn, .string gt] 45)).alloc (.cells #[.string ⟨#[]⟩, .slice none 0 0, .int .i64 0] 26)) [L4.boxR w.heap.size 26 #[.string name, .slice a N c, .int .i64 auto], L4.boxR (w.heap.size + 1) 45 #[.bool rl, .bool rh, .int .i64 lk, .int .i64 ln, .string lt, .int .i64 gk, .int .i64 gn, .string gt], L4.boxR (w.heap.size + 1 + 1) 26 #[.string ⟨#[]⟩, .slice none 0 0, .int .i64 0]] from L4.push_box (L4.push_box (L4.push_box (Sl.Sep.start w) 26 #[.string name, .slice a N c, .int .i64 auto] (w.heap.size) (by simp)) 45 #[.bool rl, .bool rh, .int .i64 lk, .int .i64 ln, .string lt, .int .i64 gk, .int .i64 gn, .string gt] (w.heap.size + 1) (by simp)) 26 #[.string ⟨#[]⟩, .slice none 0 0, .int .i64 0] (w.heap.size + 1 + 1) (by simp))
  obtain ⟨wa, hwa⟩ : ∃ u, u = (((w.alloc (.cells #[.string name, .slice a N c, .int .i64 auto] 26)).alloc (.cells #[.bool rl, .bool rh, .int .i64 lk, .int .i64 ln, .string lt, .int .i64 gk, .int .i64 gn, .string gt] 45)).alloc (.cells #[.string ⟨#[]⟩, .slice none 0 0, .int .i64 0] 26)) := ⟨_, rfl⟩
  rw [← hwa] at S1
  go_enter Try.func26, Try.ntmps26
  go_upto_region 1 with fail
  rw [← hwa]
  clear hwa
  have f0 : World.cell? _ ⟨w.heap.size, 0, none⟩ = some (.string name) := Bag.cell_at S1.out 0 rfl 0 rfl
  have f1 : World.cell? _ ⟨w.heap.size, 1, none⟩ = some (.slice a N c) := Bag.cell_at S1.out 0 rfl 1 rfl
  have f2 : World.cell? _ ⟨w.heap.size, 2, none⟩ = some (.int .i64 auto) := Bag.cell_at S1.out 0 rfl 2 rfl
  have f3 : World.cell? _ ⟨w.heap.size + 1, 0, none⟩ = some (.bool rl) := Bag.cell_at S1.out 1 rfl 0 rfl
  have f4 : World.cell? _ ⟨w.heap.size + 1, 1, none⟩ = some (.bool rh) := Bag.cell_at S1.out 1 rfl 1 rfl
  have f5 : World.cell? _ ⟨w.heap.size + 1, 2, none⟩ = some (.int .i64 lk) := Bag.cell_at S1.out 1 rfl 2 rfl
  have f6 : World.cell? _ ⟨w.heap.size + 1, 3, none⟩ = some (.int .i64 ln) := Bag.cell_at S1.out 1 rfl 3 rfl
  have f7 : World.cell? _ ⟨w.heap.size + 1, 4, none⟩ = some (.string lt) := Bag.cell_at S1.out 1 rfl 4 rfl
  have f8 : World.cell? _ ⟨w.heap.size + 1, 5, none⟩ = some (.int .i64 gk) := Bag.cell_at S1.out 1 rfl 5 rfl
  have f9 : World.cell? _ ⟨w.heap.size + 1, 6, none⟩ = some (.int .i64 gn) := Bag.cell_at S1.out 1 rfl 6 rfl
  have f10 : World.cell? _ ⟨w.heap.size + 1, 7, none⟩ = some (.string gt) := Bag.cell_at S1.out 1 rfl 7 rfl
  have f11 : World.cell? _ ⟨w.heap.size + 1 + 1, 0, none⟩ = some (.string ⟨#[]⟩) := Bag.cell_at S1.out 2 rfl 0 rfl
  have f12 : World.cell? _ ⟨w.heap.size + 1 + 1, 1, none⟩ = some (.slice none 0 0) := Bag.cell_at S1.out 2 rfl 1 rfl
  have f13 : World.cell? _ ⟨w.heap.size + 1 + 1, 2, none⟩ = some (.int .i64 0) := Bag.cell_at S1.out 2 rfl 2 rfl
  go_wp2_with fail
  go_at_call 59
  refine (HCP.out _ S1.out.old).mono ?_
  rintro e w1 ⟨g3, ys, rfl, hcon, ho, hb⟩
  clear f0 f1 f2 f3 f4 f5 f6 f7 f8 f9 f10 f11 f12 f13
  have S2 := Lib.hid (show Sl.Sep w _ [L4.boxR w.heap.size 26 #[.string name, .slice a N c, .int .i64 auto], L4.boxR (w.heap.size + 1) 45 #[.bool rl, .bool rh, .int .i64 lk, .int .i64 ln, .string lt, .int .i64 gk, .int .i64 gn, .string gt], L4.boxR (w.heap.size + 1 + 1) 26 #[.string ⟨#[]⟩, .slice none 0 0, .int .i64 0], Bag.bag (rowI (some ⟨g3, 0, none⟩) ys.length ys :: rowsI ys)] from Bag.push_bag S1.out hb ho)
  clear S1
  clear hb ho
  have HCON := Lib.hid hcon
  clear hcon
  dsimp only at HCON ⊢
  have hyl : ys.length = N := by have h := congrArg List.length HCON.out; simp only [conI_length] at h; rw [h]; exact HN.out.symm
  have f0 : World.cell? _ ⟨w.heap.size, 0, none⟩ = some (.string name) := Bag.cell_at S2.out 0 rfl 0 rfl
  have f1 : World.cell? _ ⟨w.heap.size, 1, none⟩ = some (.slice a N c) := Bag.cell_at S2.out 0 rfl 1 rfl
  have f2 : World.cell? _ ⟨w.heap.size, 2, none⟩ = some (.int .i64 auto) := Bag.cell_at S2.out 0 rfl 2 rfl
  have f3 : World.cell? _ ⟨w.heap.size + 1, 0, none⟩ = some (.bool rl) := Bag.cell_at S2.out 1 rfl 0 rfl
  have f4 : World.cell? _ ⟨w.heap.size + 1, 1, none⟩ = some (.bool rh) := Bag.cell_at S2.out 1 rfl 1 rfl
  have f5 : World.cell? _ ⟨w.heap.size + 1, 2, none⟩ = some (.int .i64 lk) := Bag.cell_at S2.out 1 rfl 2 rfl
  have f6 : World.cell? _ ⟨w.heap.size + 1, 3, none⟩ = some (.int .i64 ln) := Bag.cell_at S2.out 1 rfl 3 rfl
  have f7 : World.cell? _ ⟨w.heap.size + 1, 4, none⟩ = some (.string lt) := Bag.cell_at S2.out 1 rfl 4 rfl
  have f8 : World.cell? _ ⟨w.heap.size + 1, 5, none⟩ = some (.int .i64 gk) := Bag.cell_at S2.out 1 rfl 5 rfl
  have f9 : World.cell? _ ⟨w.heap.size + 1, 6, none⟩ = some (.int .i64 gn) := Bag.cell_at S2.out 1 rfl 6 rfl
  have f10 : World.cell? _ ⟨w.heap.size + 1, 7, none⟩ = some (.string gt) := Bag.cell_at S2.out 1 rfl 7 rfl
  have f11 : World.cell? _ ⟨w.heap.size + 1 + 1, 0, none⟩ = some (.string ⟨#[]⟩) := Bag.cell_at S2.out 2 rfl 0 rfl
  have f12 : World.cell? _ ⟨w.heap.size + 1 + 1, 1, none⟩ = some (.slice none 0 0) := Bag.cell_at S2.out 2 rfl 1 rfl
  have f13 : World.cell? _ ⟨w.heap.size + 1 + 1, 2, none⟩ = some (.int .i64 0) := Bag.cell_at S2.out 2 rfl 2 rfl
  rw [hyl]
  go_upto_region 2 with fail
  clear f0 f1 f2 f3 f4 f5 f6 f7 f8 f9 f10 f11 f12 f13
  have S3 := Lib.hid (show Sl.Sep w _ [L4.boxR w.heap.size 26 #[.string name, .slice a N c, .int .i64 auto], L4.boxR (w.heap.size + 1) 45 #[.bool rl, .bool rh, .int .i64 lk, .int .i64 ln, .string lt, .int .i64 gk, .int .i64 gn, .string gt], L4.boxR (w.heap.size + 1 + 1) 26 #[.string ⟨#[]⟩, .slice none 0 0, .int .i64 0], Bag.bag (rowI (some ⟨g3, 0, none⟩) ys.length ys :: rowsI ys), L4.boxR w1.heap.size 26 #[.string name, .slice (some ⟨g3, 0, none⟩) N N, .int .i64 auto]] from L4.push_box S2.out 26 #[.string name, .slice (some ⟨g3, 0, none⟩) N N, .int .i64 auto] w1.heap.size rfl)
  clear S2
  obtain ⟨g1, hg⟩ : ∃ g', g' = w1.heap.size := ⟨_, rfl⟩
  rw [← hg] at S3 ⊢
  clear hg
  generalize w1.alloc (.cells #[.string name, .slice (some ⟨g3, 0, none⟩) N N, .int .i64 auto] 26) = w2 at S3 ⊢
  have f0 : World.cell? _ ⟨w.heap.size, 0, none⟩ = some (.string name) := Bag.cell_at S3.out 0 rfl 0 rfl
  have f1 : World.cell? _ ⟨w.heap.size, 1, none⟩ = some (.slice a N c) := Bag.cell_at S3.out 0 rfl 1 rfl
  have f2 : World.cell? _ ⟨w.heap.size, 2, none⟩ = some (.int .i64 auto) := Bag.cell_at S3.out 0 rfl 2 rfl
  have f3 : World.cell? _ ⟨w.heap.size + 1, 0, none⟩ = some (.bool rl) := Bag.cell_at S3.out 1 rfl 0 rfl
  have f4 : World.cell? _ ⟨w.heap.size + 1, 1, none⟩ = some (.bool rh) := Bag.cell_at S3.out 1 rfl 1 rfl
  have f5 : World.cell? _ ⟨w.heap.size + 1, 2, none⟩ = some (.int .i64 lk) := Bag.cell_at S3.out 1 rfl 2 rfl
  have f6 : World.cell? _ ⟨w.heap.size + 1, 3, none⟩ = some (.int .i64 ln) := Bag.cell_at S3.out 1 rfl 3 rfl
  have f7 : World.cell? _ ⟨w.heap.size + 1, 4, none⟩ = some (.string lt) := Bag.cell_at S3.out 1 rfl 4 rfl
  have f8 : World.cell? _ ⟨w.heap.size + 1, 5, none⟩ = some (.int .i64 gk) := Bag.cell_at S3.out 1 rfl 5 rfl
  have f9 : World.cell? _ ⟨w.heap.size + 1, 6, none⟩ = some (.int .i64 gn) := Bag.cell_at S3.out 1 rfl 6 rfl
  have f10 : World.cell? _ ⟨w.heap.size + 1, 7, none⟩ = some (.string gt) := Bag.cell_at S3.out 1 rfl 7 rfl
  have f11 : World.cell? _ ⟨w.heap.size + 1 + 1, 0, none⟩ = some (.string ⟨#[]⟩) := Bag.cell_at S3.out 2 rfl 0 rfl
  have f12 : World.cell? _ ⟨w.heap.size + 1 + 1, 1, none⟩ = some (.slice none 0 0) := Bag.cell_at S3.out 2 rfl 1 rfl
  have f13 : World.cell? _ ⟨w.heap.size + 1 + 1, 2, none⟩ = some (.int .i64 0) := Bag.cell_at S3.out 2 rfl 2 rfl
  have f14 : World.cell? _ ⟨g1, 0, none⟩ = some (.string name) := Bag.cell_at S3.out 4 rfl 0 rfl
  have f15 : World.cell? _ ⟨g1, 1, none⟩ = some (.slice (some ⟨g3, 0, none⟩) N N) := Bag.cell_at S3.out 4 rfl 1 rfl
  have f16 : World.cell? _ ⟨g1, 2, none⟩ = some (.int .i64 auto) := Bag.cell_at S3.out 4 rfl 2 rfl
  go_wp2_with fail
  go_at_call 22
  refine (HIS.out _ S3.out.old).mono ?_
  rintro e w3 ⟨rfl, hb⟩
  clear f0 f1 f2 f3 f4 f5 f6 f7 f8 f9 f10 f11 f12 f13 f14 f15 f16
  have S4 := Lib.hid (show Sl.Sep w _ [L4.boxR w.heap.size 26 #[.string name, .slice a N c, .int .i64 auto], L4.boxR (w.heap.size + 1) 45 #[.bool rl, .bool rh, .int .i64 lk, .int .i64 ln, .string lt, .int .i64 gk, .int .i64 gn, .string gt], L4.boxR (w.heap.size + 1 + 1) 26 #[.string ⟨#[]⟩, .slice none 0 0, .int .i64 0], Bag.bag (rowI (some ⟨g3, 0, none⟩) ys.length ys :: rowsI ys), L4.boxR g1 26 #[.string name, .slice (some ⟨g3, 0, none⟩) N N, .int .i64 auto]] from S3.out.keep hb)
  clear S3
  clear hb
  have f0 : World.cell? _ ⟨w.heap.size, 0, none⟩ = some (.string name) := Bag.cell_at S4.out 0 rfl 0 rfl
  have f1 : World.cell? _ ⟨w.heap.size, 1, none⟩ = some (.slice a N c) := Bag.cell_at S4.out 0 rfl 1 rfl
  have f2 : World.cell? _ ⟨w.heap.size, 2, none⟩ = some (.int .i64 auto) := Bag.cell_at S4.out 0 rfl 2 rfl
  have f3 : World.cell? _ ⟨w.heap.size + 1, 0, none⟩ = some (.bool rl) := Bag.cell_at S4.out 1 rfl 0 rfl
  have f4 : World.cell? _ ⟨w.heap.size + 1, 1, none⟩ = some (.bool rh) := Bag.cell_at S4.out 1 rfl 1 rfl
  have f5 : World.cell? _ ⟨w.heap.size + 1, 2, none⟩ = some (.int .i64 lk) := Bag.cell_at S4.out 1 rfl 2 rfl
  have f6 : World.cell? _ ⟨w.heap.size + 1, 3, none⟩ = some (.int .i64 ln) := Bag.cell_at S4.out 1 rfl 3 rfl
  have f7 : World.cell? _ ⟨w.heap.size + 1, 4, none⟩ = some (.string lt) := Bag.cell_at S4.out 1 rfl 4 rfl
  have f8 : World.cell? _ ⟨w.heap.size + 1, 5, none⟩ = some (.int .i64 gk) := Bag.cell_at S4.out 1 rfl 5 rfl
  have f9 : World.cell? _ ⟨w.heap.size + 1, 6, none⟩ = some (.int .i64 gn) := Bag.cell_at S4.out 1 rfl 6 rfl
  have f10 : World.cell? _ ⟨w.heap.size + 1, 7, none⟩ = some (.string gt) := Bag.cell_at S4.out 1 rfl 7 rfl
  have f11 : World.cell? _ ⟨w.heap.size + 1 + 1, 0, none⟩ = some (.string ⟨#[]⟩) := Bag.cell_at S4.out 2 rfl 0 rfl
  have f12 : World.cell? _ ⟨w.heap.size + 1 + 1, 1, none⟩ = some (.slice none 0 0) := Bag.cell_at S4.out 2 rfl 1 rfl
  have f13 : World.cell? _ ⟨w.heap.size + 1 + 1, 2, none⟩ = some (.int .i64 0) := Bag.cell_at S4.out 2 rfl 2 rfl
  have f14 : World.cell? _ ⟨g1, 0, none⟩ = some (.string name) := Bag.cell_at S4.out 4 rfl 0 rfl
  have f15 : World.cell? _ ⟨g1, 1, none⟩ = some (.slice (some ⟨g3, 0, none⟩) N N) := Bag.cell_at S4.out 4 rfl 1 rfl
  have f16 : World.cell? _ ⟨g1, 2, none⟩ = some (.int .i64 auto) := Bag.cell_at S4.out 4 rfl 2 rfl
  cases bs with
  | false =>
    clear f0 f1 f2 f3 f4 f5 f6 f7 f8 f9 f10 f11 f12 f13 f14 f15 f16
    have f0 : World.cell? _ ⟨w.heap.size + 1 + 1, 0, none⟩ = some (.string ⟨#[]⟩) := Bag.cell_at S4.out 2 rfl 0 rfl
    have f1 : World.cell? _ ⟨w.heap.size + 1 + 1, 1, none⟩ = some (.slice none 0 0) := Bag.cell_at S4.out 2 rfl 1 rfl
    have f2 : World.cell? _ ⟨w.heap.size + 1 + 1, 2, none⟩ = some (.int .i64 0) := Bag.cell_at S4.out 2 rfl 2 rfl
    have f3 : World.cell? _ ⟨g1, 0, none⟩ = some (.string name) := Bag.cell_at S4.out 4 rfl 0 rfl
    have f4 : World.cell? _ ⟨g1, 1, none⟩ = some (.slice (some ⟨g3, 0, none⟩) N N) := Bag.cell_at S4.out 4 rfl 1 rfl
    have f5 : World.cell? _ ⟨g1, 2, none⟩ = some (.int .i64 auto) := Bag.cell_at S4.out 4 rfl 2 rfl
    have z0 := Bag.free_at S4.out 2 rfl 0
    have z1 := Bag.free_at S4.out 2 rfl 1
    have z2 := Bag.free_at S4.out 2 rfl 2
    go_wp2_with fail
    clear f0 f1 f2 f3 f4 f5 z0 z1 z2
    have S5 := Lib.hid (show Sl.Sep w _ [L4.boxR w.heap.size 26 #[.string name, .slice a N c, .int .i64 auto], L4.boxR (w.heap.size + 1) 45 #[.bool rl, .bool rh, .int .i64 lk, .int .i64 ln, .string lt, .int .i64 gk, .int .i64 gn, .string gt], L4.boxR (w.heap.size + 1 + 1) 26 #[.string name, .slice (some ⟨g3, 0, none⟩) N N, .int .i64 auto], Bag.bag (rowI (some ⟨g3, 0, none⟩) ys.length ys :: rowsI ys), L4.boxR g1 26 #[.string name, .slice (some ⟨g3, 0, none⟩) N N, .int .i64 auto]] from L5.put_box5 (L5.put_box5 (L5.put_box5 (S4.out) 2 rfl 0 (.string name)) 2 rfl 1 (.slice (some ⟨g3, 0, none⟩) N N)) 2 rfl 2 (.int .i64 auto))
    clear S4
    have f0 : World.cell? _ ⟨w.heap.size + 1 + 1, 0, none⟩ = some (.string name) := Bag.cell_at S5.out 2 rfl 0 rfl
    have f1 : World.cell? _ ⟨w.heap.size + 1 + 1, 1, none⟩ = some (.slice (some ⟨g3, 0, none⟩) N N) := Bag.cell_at S5.out 2 rfl 1 rfl
    have f2 : World.cell? _ ⟨w.heap.size + 1 + 1, 2, none⟩ = some (.int .i64 auto) := Bag.cell_at S5.out 2 rfl 2 rfl
    refine bodyPost_ret (v := .tuple #[.agg #[.string name, .slice (some ⟨g3, 0, none⟩) N N, .int .i64 auto], .int .i64 0]) (by simp [results, Try.results26, go_sem, *]) rfl ?_
    have hb := Bag.bag_from S5.out 3 rfl
    exact ⟨⟨name, some ⟨g3, 0, none⟩, N, ys, auto⟩, by rw [HD.out.2]; unfold LS.v LS.cells; dsimp only; rw [hyl]; rfl, by rw [HD.out.1]; unfold LS.con; dsimp only; rw [HCON.out]; rfl, by rw [hyl] at hb; exact hb, S5.out.old⟩
  | true =>
    clear f0 f1 f2 f3 f4 f5 f6 f7 f8 f9 f10 f11 f12 f13 f14 f15 f16
    have S5 := Lib.hid (show Sl.Sep w _ [L4.boxR w.heap.size 26 #[.string name, .slice a N c, .int .i64 auto], L4.boxR (w.heap.size + 1) 45 #[.bool rl, .bool rh, .int .i64 lk, .int .i64 ln, .string lt, .int .i64 gk, .int .i64 gn, .string gt], L4.boxR (w.heap.size + 1 + 1) 26 #[.string ⟨#[]⟩, .slice none 0 0, .int .i64 0], Bag.bag ([rowI (some ⟨g3, 0, none⟩) ys.length ys] ++ rowsI ys), L4.boxR g1 26 #[.string name, .slice (some ⟨g3, 0, none⟩) N N, .int .i64 auto]] from S4.out)
    clear S4
    have S6 := Lib.hid (show Sl.Sep w _ [L4.boxR w.heap.size 26 #[.string name, .slice a N c, .int .i64 auto], L4.boxR (w.heap.size + 1) 45 #[.bool rl, .bool rh, .int .i64 lk, .int .i64 ln, .string lt, .int .i64 gk, .int .i64 gn, .string gt], L4.boxR (w.heap.size + 1 + 1) 26 #[.string ⟨#[]⟩, .slice none 0 0, .int .i64 0], Bag.bag ([rowI (some ⟨g3, 0, none⟩) ys.length ys]), L4.boxR g1 26 #[.string name, .slice (some ⟨g3, 0, none⟩) N N, .int .i64 auto], Bag.bag (rowsI ys)] from Bag.bag_split S5.out 3 rfl)
    clear S5
    have S7 := Lib.hid (show Sl.Sep w _ [L4.boxR w.heap.size 26 #[.string name, .slice a N c, .int .i64 auto], L4.boxR (w.heap.size + 1) 45 #[.bool rl, .bool rh, .int .i64 lk, .int .i64 ln, .string lt, .int .i64 gk, .int .i64 gn, .string gt], L4.boxR (w.heap.size + 1 + 1) 26 #[.string ⟨#[]⟩, .slice none 0 0, .int .i64 0], Sv.ownV 40 4 (some ⟨g3, 0, none⟩) N ys.length (cellsI ys), L4.boxR g1 26 #[.string name, .slice (some ⟨g3, 0, none⟩) N N, .int .i64 auto], Bag.bag (rowsI ys)] from (by have h := Bag.one_of_bag S6.out 3 (r := rowI (some ⟨g3, 0, none⟩) ys.length ys) rfl; unfold RowS.res rowI at h; dsimp only at h; rw [hyl] at h ⊢; exact h))
    clear S6
    have HIT := Lib.hid (show ∀ x ∈ ys, FitI x.con from fun x hx => HF.out _ (by rw [← HCON.out]; exact List.mem_map.2 ⟨x, hx, rfl⟩))
    have hne : w.heap.size + 1 ≠ g3 := fun e => S7.out.apart 1 3 _ _ rfl rfl (by decide) g3 (by rw [← e]; simp [L4.boxR]) (by simp [Sv.ownV, Value.ownBlock])
    have HDF := Lib.hid (deleteFuncI_any g3 (w.heap.size + 1) N (fun x => inR x.k ⟨rl, rh, ⟨lk, ln, lt⟩, ⟨gk, gn, gt⟩⟩) ys (by omega) w w3 (Run.rest_start S7.out 3 rfl) (S7.out.lies 1 _ rfl _ (by simp [L4.boxR])).2 hne (fun x hx w' hsz hb => deleteItems1_any _ _ _ _ _ _ _ _ (HIT.out x hx).text HR1.out HR2.out w' (Nat.lt_of_lt_of_le (S7.out.lies 1 _ rfl _ (by simp [L4.boxR])).2 hsz) (hb.trans (L4.box_at S7.out 1 rfl))))
    rw [hyl] at HDF
    clear hne
    have f0 : World.cell? _ ⟨w.heap.size, 0, none⟩ = some (.string name) := Bag.cell_at S7.out 0 rfl 0 rfl
    have f1 : World.cell? _ ⟨w.heap.size, 1, none⟩ = some (.slice a N c) := Bag.cell_at S7.out 0 rfl 1 rfl
    have f2 : World.cell? _ ⟨w.heap.size, 2, none⟩ = some (.int .i64 auto) := Bag.cell_at S7.out 0 rfl 2 rfl
    have f3 : World.cell? _ ⟨w.heap.size + 1, 0, none⟩ = some (.bool rl) := Bag.cell_at S7.out 1 rfl 0 rfl
    have f4 : World.cell? _ ⟨w.heap.size + 1, 1, none⟩ = some (.bool rh) := Bag.cell_at S7.out 1 rfl 1 rfl
    have f5 : World.cell? _ ⟨w.heap.size + 1, 2, none⟩ = some (.int .i64 lk) := Bag.cell_at S7.out 1 rfl 2 rfl
    have f6 : World.cell? _ ⟨w.heap.size + 1, 3, none⟩ = some (.int .i64 ln) := Bag.cell_at S7.out 1 rfl 3 rfl
    have f7 : World.cell? _ ⟨w.heap.size + 1, 4, none⟩ = some (.string lt) := Bag.cell_at S7.out 1 rfl 4 rfl
    have f8 : World.cell? _ ⟨w.heap.size + 1, 5, none⟩ = some (.int .i64 gk) := Bag.cell_at S7.out 1 rfl 5 rfl
    have f9 : World.cell? _ ⟨w.heap.size + 1, 6, none⟩ = some (.int .i64 gn) := Bag.cell_at S7.out 1 rfl 6 rfl
    have f10 : World.cell? _ ⟨w.heap.size + 1, 7, none⟩ = some (.string gt) := Bag.cell_at S7.out 1 rfl 7 rfl
    have f11 : World.cell? _ ⟨w.heap.size + 1 + 1, 0, none⟩ = some (.string ⟨#[]⟩) := Bag.cell_at S7.out 2 rfl 0 rfl
    have f12 : World.cell? _ ⟨w.heap.size + 1 + 1, 1, none⟩ = some (.slice none 0 0) := Bag.cell_at S7.out 2 rfl 1 rfl
    have f13 : World.cell? _ ⟨w.heap.size + 1 + 1, 2, none⟩ = some (.int .i64 0) := Bag.cell_at S7.out 2 rfl 2 rfl
    have f14 : World.cell? _ ⟨g1, 0, none⟩ = some (.string name) := Bag.cell_at S7.out 4 rfl 0 rfl
    have f15 : World.cell? _ ⟨g1, 1, none⟩ = some (.slice (some ⟨g3, 0, none⟩) N N) := Bag.cell_at S7.out 4 rfl 1 rfl
    have f16 : World.cell? _ ⟨g1, 2, none⟩ = some (.int .i64 auto) := Bag.cell_at S7.out 4 rfl 2 rfl
    go_wp2_with fail
    go_at_call 82
    refine HDF.out.mono ?_
    rintro e w5 ⟨zs, rfl, hzs, hS⟩
    clear f0 f1 f2 f3 f4 f5 f6 f7 f8 f9 f10 f11 f12 f13 f14 f15 f16
    obtain ⟨Q, hQ⟩ : ∃ q, q = zs.length := ⟨_, rfl⟩
    rw [← hQ] at hS ⊢
    have S8 := Lib.hid (show Sl.Sep w _ [L4.boxR w.heap.size 26 #[.string name, .slice a N c, .int .i64 auto], L4.boxR (w.heap.size + 1) 45 #[.bool rl, .bool rh, .int .i64 lk, .int .i64 ln, .string lt, .int .i64 gk, .int .i64 gn, .string gt], L4.boxR (w.heap.size + 1 + 1) 26 #[.string ⟨#[]⟩, .slice none 0 0, .int .i64 0], Sv.ownV 40 4 (some ⟨g3, 0, none⟩) N Q (cellsI zs), L4.boxR g1 26 #[.string name, .slice (some ⟨g3, 0, none⟩) N N, .int .i64 auto], Bag.bag (rowsI ys)] from Run.rest_back S7.out 3 rfl hS)
    clear S7
    have HQ := Lib.hid hQ
    have HZ := Lib.hid hzs
    clear hQ hzs hS HDF
    have HO := Lib.hid (show conI zs = outI (conI xs) ⟨rl, rh, ⟨lk, ln, lt⟩, ⟨gk, gn, gt⟩⟩ from by rw [HZ.out, keptL_con, HCON.out]; rfl)
    have hQN : Q ≤ N := by rw [HQ.out, HZ.out, ← hyl]; exact List.length_filter_le _ _
    have hw1 : IntKind.i64.wrap ((N : Int) - (Q : Int)) = (N : Int) - (Q : Int) := IntWalk.i64_in _ ⟨by omega, by omega⟩
    have f0 : World.cell? _ ⟨w.heap.size, 0, none⟩ = some (.string name) := Bag.cell_at S8.out 0 rfl 0 rfl
    have f1 : World.cell? _ ⟨w.heap.size, 1, none⟩ = some (.slice a N c) := Bag.cell_at S8.out 0 rfl 1 rfl
    have f2 : World.cell? _ ⟨w.heap.size, 2, none⟩ = some (.int .i64 auto) := Bag.cell_at S8.out 0 rfl 2 rfl
    have f3 : World.cell? _ ⟨w.heap.size + 1, 0, none⟩ = some (.bool rl) := Bag.cell_at S8.out 1 rfl 0 rfl
    have f4 : World.cell? _ ⟨w.heap.size + 1, 1, none⟩ = some (.bool rh) := Bag.cell_at S8.out 1 rfl 1 rfl
    have f5 : World.cell? _ ⟨w.heap.size + 1, 2, none⟩ = some (.int .i64 lk) := Bag.cell_at S8.out 1 rfl 2 rfl
    have f6 : World.cell? _ ⟨w.heap.size + 1, 3, none⟩ = some (.int .i64 ln) := Bag.cell_at S8.out 1 rfl 3 rfl
    have f7 : World.cell? _ ⟨w.heap.size + 1, 4, none⟩ = some (.string lt) := Bag.cell_at S8.out 1 rfl 4 rfl
    have f8 : World.cell? _ ⟨w.heap.size + 1, 5, none⟩ = some (.int .i64 gk) := Bag.cell_at S8.out 1 rfl 5 rfl
    have f9 : World.cell? _ ⟨w.heap.size + 1, 6, none⟩ = some (.int .i64 gn) := Bag.cell_at S8.out 1 rfl 6 rfl
    have f10 : World.cell? _ ⟨w.heap.size + 1, 7, none⟩ = some (.string gt) := Bag.cell_at S8.out 1 rfl 7 rfl
    have f11 : World.cell? _ ⟨w.heap.size + 1 + 1, 0, none⟩ = some (.string ⟨#[]⟩) := Bag.cell_at S8.out 2 rfl 0 rfl
    have f12 : World.cell? _ ⟨w.heap.size + 1 + 1, 1, none⟩ = some (.slice none 0 0) := Bag.cell_at S8.out 2 rfl 1 rfl
    have f13 : World.cell? _ ⟨w.heap.size + 1 + 1, 2, none⟩ = some (.int .i64 0) := Bag.cell_at S8.out 2 rfl 2 rfl
    have f14 : World.cell? _ ⟨g1, 0, none⟩ = some (.string name) := Bag.cell_at S8.out 4 rfl 0 rfl
    have f15 : World.cell? _ ⟨g1, 1, none⟩ = some (.slice (some ⟨g3, 0, none⟩) N N) := Bag.cell_at S8.out 4 rfl 1 rfl
    have f16 : World.cell? _ ⟨g1, 2, none⟩ = some (.int .i64 auto) := Bag.cell_at S8.out 4 rfl 2 rfl
    have z0 := Bag.free_at S8.out 4 rfl 0
    have z1 := Bag.free_at S8.out 4 rfl 1
    have z2 := Bag.free_at S8.out 4 rfl 2
    go_upto_region 5 with fail
    clear f0 f1 f2 f3 f4 f5 f6 f7 f8 f9 f10 f11 f12 f13 f14 f15 f16 z0 z1 z2
    have S9 := Lib.hid (show Sl.Sep w _ [L4.boxR w.heap.size 26 #[.string name, .slice a N c, .int .i64 auto], L4.boxR (w.heap.size + 1) 45 #[.bool rl, .bool rh, .int .i64 lk, .int .i64 ln, .string lt, .int .i64 gk, .int .i64 gn, .string gt], L4.boxR (w.heap.size + 1 + 1) 26 #[.string ⟨#[]⟩, .slice none 0 0, .int .i64 0], Sv.ownV 40 4 (some ⟨g3, 0, none⟩) N Q (cellsI zs), L4.boxR g1 26 #[.string name, .slice (some ⟨g3, 0, none⟩) Q N, .int .i64 auto], Bag.bag (rowsI ys)] from L5.put_box5 (S8.out) 4 rfl 1 (.slice (some ⟨g3, 0, none⟩) Q N))
    clear S8
    refine wp_region_held_drew (S := (fun w' => World.cell? w' ⟨w.heap.size, 0, none⟩ = some (.string name) ∧ World.cell? w' ⟨w.heap.size, 1, none⟩ = some (.slice a N c) ∧ World.cell? w' ⟨w.heap.size, 2, none⟩ = some (.int .i64 auto) ∧ World.cell? w' ⟨g1, 0, none⟩ = some (.string name) ∧ World.cell? w' ⟨g1, 1, none⟩ = some (.slice (some ⟨g3, 0, none⟩) Q N) ∧ World.cell? w' ⟨g1, 2, none⟩ = some (.int .i64 auto))) (by kernel_rfl) ⟨Bag.cell_at S9.out 0 rfl 0 rfl, Bag.cell_at S9.out 0 rfl 1 rfl, Bag.cell_at S9.out 0 rfl 2 rfl, Bag.cell_at S9.out 4 rfl 0 rfl, Bag.cell_at S9.out 4 rfl 1 rfl, Bag.cell_at S9.out 4 rfl 2 rfl⟩ (fun hS => ?_)
    have S10 := Lib.hid (show Sl.Sep w _ [L4.boxR w.heap.size 26 #[.string name, .slice a N c, .int .i64 auto], L4.boxR (w.heap.size + 1) 45 #[.bool rl, .bool rh, .int .i64 lk, .int .i64 ln, .string lt, .int .i64 gk, .int .i64 gn, .string gt], L4.boxR (w.heap.size + 1 + 1) 26 #[.string ⟨#[]⟩, .slice none 0 0, .int .i64 0], Sv.ownV 40 4 (some ⟨g3, 0, none⟩) N Q (cellsI zs), L4.boxR g1 26 #[.string name, .slice (some ⟨g3, 0, none⟩) Q N, .int .i64 auto], Bag.bag (rowsI ys)] from Bag.drew1 S9.out)
    clear S9
    generalize World.drew _ = w4 at hS S10 ⊢
    refine tk 0 rfl ?_
    try simp only [zp0, zp1, zp2, zp3, zp4]
    refine tk 1 rfl ?_
    try simp only [zp0, zp1, zp2, zp3, zp4]
    refine tk 2 rfl ?_
    try simp only [zp0, zp1, zp2, zp3, zp4]
    refine tk 3 rfl ?_
    try simp only [zp0, zp1, zp2, zp3, zp4]
    refine tk 4 rfl ?_
    try simp only [zp0, zp1, zp2, zp3, zp4]
    refine tk 5 rfl ?_
    try simp only [zp0, zp1, zp2, zp3, zp4]
    refine tk 6 rfl ?_
    try simp only [zp0, zp1, zp2, zp3, zp4]
    refine tk 7 rfl ?_
    try simp only [zp0, zp1, zp2, zp3, zp4]
    refine Reg.one_op (i := 8) rfl (by kernel_rfl) (fun K hK => ?_)
    have f0 : World.cell? _ ⟨w.heap.size + 1 + 1, 0, none⟩ = some (.string ⟨#[]⟩) := Bag.cell_at S10.out 2 rfl 0 rfl
    have f1 : World.cell? _ ⟨w.heap.size + 1 + 1, 1, none⟩ = some (.slice none 0 0) := Bag.cell_at S10.out 2 rfl 1 rfl
    have f2 : World.cell? _ ⟨w.heap.size + 1 + 1, 2, none⟩ = some (.int .i64 0) := Bag.cell_at S10.out 2 rfl 2 rfl
    have z0 := Bag.free_at S10.out 2 rfl 0
    have z1 := Bag.free_at S10.out 2 rfl 1
    have z2 := Bag.free_at S10.out 2 rfl 2
    go_simp
    clear f0 f1 f2 z0 z1 z2
    have S11 := Lib.hid (show Sl.Sep w _ [L4.boxR w.heap.size 26 #[.string name, .slice a N c, .int .i64 auto], L4.boxR (w.heap.size + 1) 45 #[.bool rl, .bool rh, .int .i64 lk, .int .i64 ln, .string lt, .int .i64 gk, .int .i64 gn, .string gt], L4.boxR (w.heap.size + 1 + 1) 26 #[.string name, .slice (some ⟨g3, 0, none⟩) Q N, .int .i64 auto], Sv.ownV 40 4 (some ⟨g3, 0, none⟩) N Q (cellsI zs), L4.boxR g1 26 #[.string name, .slice (some ⟨g3, 0, none⟩) Q N, .int .i64 auto], Bag.bag (rowsI ys)] from L5.put_box5 (L5.put_box5 (L5.put_box5 (S10.out) 2 rfl 0 (.string name)) 2 rfl 1 (.slice (some ⟨g3, 0, none⟩) Q N)) 2 rfl 2 (.int .i64 auto))
    clear S10
    refine hK.out _ _ ⟨Bag.cell_at S11.out 0 rfl 0 rfl, Bag.cell_at S11.out 0 rfl 1 rfl, Bag.cell_at S11.out 0 rfl 2 rfl, Bag.cell_at S11.out 4 rfl 0 rfl, Bag.cell_at S11.out 4 rfl 1 rfl, Bag.cell_at S11.out 4 rfl 2 rfl⟩ (fun hS => ?_)
    clear hK K
    try simp only [zp0, zp1, zp2, zp3, zp4]
    refine tk 9 rfl ?_
    try simp only [zp0, zp1, zp2, zp3, zp4]
    refine wpAnyH_done (by kernel_rfl) ?_ _
    have f0 : World.cell? _ ⟨w.heap.size, 0, none⟩ = some (.string name) := Bag.cell_at S11.out 0 rfl 0 rfl
    have f1 : World.cell? _ ⟨w.heap.size, 1, none⟩ = some (.slice a N c) := Bag.cell_at S11.out 0 rfl 1 rfl
    have f2 : World.cell? _ ⟨w.heap.size, 2, none⟩ = some (.int .i64 auto) := Bag.cell_at S11.out 0 rfl 2 rfl
    have f3 : World.cell? _ ⟨w.heap.size + 1, 0, none⟩ = some (.bool rl) := Bag.cell_at S11.out 1 rfl 0 rfl
    have f4 : World.cell? _ ⟨w.heap.size + 1, 1, none⟩ = some (.bool rh) := Bag.cell_at S11.out 1 rfl 1 rfl
    have f5 : World.cell? _ ⟨w.heap.size + 1, 2, none⟩ = some (.int .i64 lk) := Bag.cell_at S11.out 1 rfl 2 rfl
    have f6 : World.cell? _ ⟨w.heap.size + 1, 3, none⟩ = some (.int .i64 ln) := Bag.cell_at S11.out 1 rfl 3 rfl
    have f7 : World.cell? _ ⟨w.heap.size + 1, 4, none⟩ = some (.string lt) := Bag.cell_at S11.out 1 rfl 4 rfl
    have f8 : World.cell? _ ⟨w.heap.size + 1, 5, none⟩ = some (.int .i64 gk) := Bag.cell_at S11.out 1 rfl 5 rfl
    have f9 : World.cell? _ ⟨w.heap.size + 1, 6, none⟩ = some (.int .i64 gn) := Bag.cell_at S11.out 1 rfl 6 rfl
    have f10 : World.cell? _ ⟨w.heap.size + 1, 7, none⟩ = some (.string gt) := Bag.cell_at S11.out 1 rfl 7 rfl
    have f11 : World.cell? _ ⟨w.heap.size + 1 + 1, 0, none⟩ = some (.string name) := Bag.cell_at S11.out 2 rfl 0 rfl
    have f12 : World.cell? _ ⟨w.heap.size + 1 + 1, 1, none⟩ = some (.slice (some ⟨g3, 0, none⟩) Q N) := Bag.cell_at S11.out 2 rfl 1 rfl
    have f13 : World.cell? _ ⟨w.heap.size + 1 + 1, 2, none⟩ = some (.int .i64 auto) := Bag.cell_at S11.out 2 rfl 2 rfl
    have f14 : World.cell? _ ⟨g1, 0, none⟩ = some (.string name) := Bag.cell_at S11.out 4 rfl 0 rfl
    have f15 : World.cell? _ ⟨g1, 1, none⟩ = some (.slice (some ⟨g3, 0, none⟩) Q N) := Bag.cell_at S11.out 4 rfl 1 rfl
    have f16 : World.cell? _ ⟨g1, 2, none⟩ = some (.int .i64 auto) := Bag.cell_at S11.out 4 rfl 2 rfl
    go_wp2_with fail
    refine bodyPost_ret (v := .tuple #[.agg #[.string name, .slice (some ⟨g3, 0, none⟩) Q N, .int .i64 auto], .int .i64 ((N : Int) - (Q : Int))]) (by simp [results, Try.results26, go_sem, *]) rfl ?_
    clear f0 f1 f2 f3 f4 f5 f6 f7 f8 f9 f10 f11 f12 f13 f14 f15 f16
    have S12 := Lib.hid (show Sl.Sep w _ [L4.boxR w.heap.size 26 #[.string name, .slice a N c, .int .i64 auto], L4.boxR (w.heap.size + 1) 45 #[.bool rl, .bool rh, .int .i64 lk, .int .i64 ln, .string lt, .int .i64 gk, .int .i64 gn, .string gt], L4.boxR (w.heap.size + 1 + 1) 26 #[.string name, .slice (some ⟨g3, 0, none⟩) Q N, .int .i64 auto], Sv.ownV 40 4 (some ⟨g3, 0, none⟩) N Q (cellsI zs), L4.boxR g1 26 #[.string name, .slice (some ⟨g3, 0, none⟩) Q N, .int .i64 auto], Bag.bag (rowsI zs)] from Bag.bag_sub S11.out 5 rfl (by rw [HZ.out]; exact List.filter_sublist.map _))
    clear S11
    have S13 := Lib.hid (show Sl.Sep w _ [L4.boxR w.heap.size 26 #[.string name, .slice a N c, .int .i64 auto], L4.boxR (w.heap.size + 1) 45 #[.bool rl, .bool rh, .int .i64 lk, .int .i64 ln, .string lt, .int .i64 gk, .int .i64 gn, .string gt], L4.boxR (w.heap.size + 1 + 1) 26 #[.string name, .slice (some ⟨g3, 0, none⟩) Q N, .int .i64 auto], Bag.bag ([rowI (some ⟨g3, 0, none⟩) N zs]), L4.boxR g1 26 #[.string name, .slice (some ⟨g3, 0, none⟩) Q N, .int .i64 auto], Bag.bag (rowsI zs)] from Bag.bag_of_one S12.out 3 (r := rowI (some ⟨g3, 0, none⟩) N zs) (by unfold RowS.res rowI; dsimp only; rw [← HQ.out]; rfl))
    clear S12
    have S14 := Lib.hid (show Sl.Sep w _ [L4.boxR w.heap.size 26 #[.string name, .slice a N c, .int .i64 auto], L4.boxR (w.heap.size + 1) 45 #[.bool rl, .bool rh, .int .i64 lk, .int .i64 ln, .string lt, .int .i64 gk, .int .i64 gn, .string gt], L4.boxR (w.heap.size + 1 + 1) 26 #[.string name, .slice (some ⟨g3, 0, none⟩) Q N, .int .i64 auto], Bag.bag ([rowI (some ⟨g3, 0, none⟩) N zs] ++ (rowsI zs)), L4.boxR g1 26 #[.string name, .slice (some ⟨g3, 0, none⟩) Q N, .int .i64 auto], Bag.bag ([])] from Bag.bag_join S13.out 3 5 (by decide) rfl rfl)
    clear S13
    have hl9 : (outI (conI xs) ⟨rl, rh, ⟨lk, ln, lt⟩, ⟨gk, gn, gt⟩⟩).length = Q := by rw [← HO.out, conI_length, HQ.out]
    exact ⟨⟨name, some ⟨g3, 0, none⟩, N, zs, auto⟩, by rw [HD.out.2, hl9, HQ.out]; rfl, by rw [HD.out.1]; unfold LS.con; dsimp only; rw [HO.out]; rfl, Bag.bag_from S14.out 3 rfl, S14.out.old⟩
end Go.Proofs.Ytkfejjoehgipmaa.L6
