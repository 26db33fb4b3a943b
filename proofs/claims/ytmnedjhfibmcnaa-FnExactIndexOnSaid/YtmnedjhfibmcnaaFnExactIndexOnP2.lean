/-
  What the law FnExactIndexOn needs, laid by my program lawpack.py, part 2: the texts L6Lb, L5Dm, L6Sx, L7Num, L7La, L6Sb, L5Rd, L7Sc, U6, L7Sa, L6Se, L7Sb, L5Cp, L6Ia, L4Im2, L4Im1, L4Im3, L4Arr, L4Im4, L5Ia, L6Iw, L7Ia, RegA, L7Ib, one behind the other; each begins with its own words.
-/
import Derived.Test.YtmnedjhfibmcnaaFnExactIndexOnP1
set_option linter.unusedSimpArgs false
/-
  The exact laws' helpers for stores: a comparison of equal stores, marks and the look at the marks. Conditions: at most 2^20 fields and items. (Written by my program gen_l6q.py.)
-/
namespace Go.Proofs.Ytmnedjhfibmcnaa.L6
set_option maxRecDepth 100000
open L4 (K isK cmpK R inR encU)
open L5 (F isR isN cellsF encR eqR Small Wide markT marksF marksF_length)
open Go.ChangeShapes Go.WideShapes Go.ChangeAt Go.RowKit Mem Sl Ex L2 Sv Bag
set_option linter.unusedVariables false
set_option linter.unusedSimpArgs false

theorem con_at {xs : List LI} {k : Nat} {x : LI} (hx : xs[k]? = some x) : (conI xs)[k]? = some x.con := by unfold conI; rw [List.getElem?_map, hx]; rfl
theorem con_same {xs ys : List LI} (h : conI xs = conI ys) {k : Nat} {x : LI} (hx : xs[k]? = some x) : ∃ a c, ys[k]? = some ⟨x.k, a, c, x.l⟩ := by
  have h1 := con_at hx
  rw [h] at h1
  unfold conI at h1
  rw [List.getElem?_map, Option.map_eq_some_iff] at h1
  obtain ⟨y, hy, he⟩ := h1
  obtain ⟨k2, a, c, l2⟩ := y
  unfold LI.con at he
  simp only [It.mk.injEq] at he
  obtain ⟨rfl, rfl⟩ := he
  exact ⟨a, c, hy⟩

set_option maxHeartbeats 4000000 in
theorem eqItem_any (kd n : Int) (t : ByteArray) (ia ia2 : Option Addr) (ic ic2 : Nat) (l : List F) (hl : l.length ≤ 1048576) (w : World) (hr : Reads w w.heap.size ia (cellsF l)) (hr2 : Reads w w.heap.size ia2 (cellsF l)) :
    Calls Try.prog 53 #[.agg #[.int .i64 kd, .int .i64 n, .string t, .slice ia l.length ic], .agg #[.int .i64 kd, .int .i64 n, .string t, .slice ia2 l.length ic2]] w fun e w' => e = .returned (.bool true) ∧ Below w.heap.size w w' := by
  have HER := Lib.hid (fun w' (h : Below w.heap.size w w') => L5.eqRecord_any ia ia2 ic ic2 l (by omega) w' ((hr.below h).more h.size) ((hr2.below h).more h.size))
  have HEK := Lib.hid (fun w' => L4.eqKey_any ⟨kd, n, t⟩ w')
  unfold L4.K.v at HEK
  obtain ⟨N, hN⟩ : ∃ n, n = l.length := ⟨_, rfl⟩
  rw [← hN] at HER ⊢
  clear hN hr hr2 hl
  have S1 := Lib.hid (show Sl.Sep w ((w.alloc (.cells #[.int .i64 kd, .int .i64 n, .string t, .slice ia N ic] 43)).alloc (.cells #[.int .i64 kd, .int .i64 n, .string t, .slice ia2 N ic2] 43)) [L4.boxR w.heap.size 43 #[.int .i64 kd, .int .i64 n, .string t, .slice ia N ic], L4.boxR (w.heap.size + 1) 43 #[.int .i64 kd, .int .i64 n, .string t, .slice ia2 N ic2]] from L4.push_box (L4.push_box (Sl.Sep.start w) 43 #[.int .i64 kd, .int .i64 n, .string t, .slice ia N ic] (w.heap.size) (by simp)) 43 #[.int .i64 kd, .int .i64 n, .string t, .slice ia2 N ic2] (w.heap.size + 1) (by simp))
  obtain ⟨wa, hwa⟩ : ∃ u, u = ((w.alloc (.cells #[.int .i64 kd, .int .i64 n, .string t, .slice ia N ic] 43)).alloc (.cells #[.int .i64 kd, .int .i64 n, .string t, .slice ia2 N ic2] 43)) := ⟨_, rfl⟩
  rw [← hwa] at S1
  go_enter Try.func53, Try.ntmps53
  go_upto_region 1 with fail
  rw [← hwa]
  clear hwa
  have hh := Bag.cs4 S1.out 0 rfl
  have f0 := hh.1; have f1 := hh.2.1; have f2 := hh.2.2.1; have f3 := hh.2.2.2; clear hh
  have hh := Bag.cs4 S1.out 1 rfl
  have f4 := hh.1; have f5 := hh.2.1; have f6 := hh.2.2.1; have f7 := hh.2.2.2; clear hh
  go_wp2_with fail
  go_at_call 49
  refine (HEK.out _).mono ?_
  rintro e w1 ⟨rfl, hb⟩
  clear f0 f1 f2 f3 f4 f5 f6 f7
  have S2 := Lib.hid (S1.out.keep hb)
  clear S1
  clear hb
  have hh := Bag.cs4 S2.out 0 rfl
  have f0 := hh.1; have f1 := hh.2.1; have f2 := hh.2.2.1; have f3 := hh.2.2.2; clear hh
  have hh := Bag.cs4 S2.out 1 rfl
  have f4 := hh.1; have f5 := hh.2.1; have f6 := hh.2.2.1; have f7 := hh.2.2.2; clear hh
  go_wp2_with fail
  go_at_call 104
  refine (HER.out _ S2.out.old).mono ?_
  rintro e w2 ⟨rfl, hb⟩
  clear f0 f1 f2 f3 f4 f5 f6 f7
  have S3 := Lib.hid (S2.out.keep hb)
  clear S2
  clear hb
  have hh := Bag.cs4 S3.out 0 rfl
  have f0 := hh.1; have f1 := hh.2.1; have f2 := hh.2.2.1; have f3 := hh.2.2.2; clear hh
  have hh := Bag.cs4 S3.out 1 rfl
  have f4 := hh.1; have f5 := hh.2.1; have f6 := hh.2.2.1; have f7 := hh.2.2.2; clear hh
  go_wp2_with fail
  go_ret
  exact ⟨rfl, S3.out.old⟩
set_option maxHeartbeats 4000000 in
theorem eqItemS_any (a a2 : Option Addr) (c c2 : Nat) (xs xs2 : List LI) (hc : conI xs = conI xs2) (hl : xs.length ≤ 1048576) (hf : ∀ x ∈ conI xs, FitI x) (w : World) (hr : Reads w w.heap.size a (cellsI xs)) (hx : RowsRd w w.heap.size (rowsI xs)) (hr2 : Reads w w.heap.size a2 (cellsI xs2)) (hx2 : RowsRd w w.heap.size (rowsI xs2)) :
    Calls Try.prog 42 #[.slice a xs.length c, .slice a2 xs2.length c2] w fun e w' => e = .returned (.bool true) ∧ Below w.heap.size w w' := by
  have HR := Lib.hid (fun w' (h : Below w.heap.size w w') => hr.below h)
  have HR2 := Lib.hid (fun w' (h : Below w.heap.size w w') => hr2.below h)
  have HX := Lib.hid (fun w' (h : Below w.heap.size w w') => (hx.below h).more h.size)
  have HX2 := Lib.hid (fun w' (h : Below w.heap.size w w') => (hx2.below h).more h.size)
  have HF := Lib.hid hf
  have HS := Lib.hid hc
  have hlen : xs2.length = xs.length := by have h := congrArg List.length hc; simp only [conI_length] at h; exact h.symm
  obtain ⟨N, hN⟩ : ∃ n, n = xs.length := ⟨_, rfl⟩
  rw [hlen, ← hN]
  rw [← hN] at hl
  have hl' : (N : Int) ≤ 1048576 := by omega
  have HN := Lib.hid hN
  clear hN hr hr2 hx hx2 hf hc hlen
  have S1 := Lib.hid (show Sl.Sep w w [] from Sl.Sep.start w)
  go_enter Try.func42, Try.ntmps42
  go_wp2_with fail
  go_loopw [5] (fun i wr => ∃ k : Nat, k ≤ N ∧ i = .int .i64 k ∧ Hid (Sl.Sep w wr [])) (fun i _ => N - (intOf i).toNat)
  case atStart => exact ⟨0, Nat.zero_le _, rfl, S1.out⟩
  case round =>
    obtain ⟨k, hk, rfl, hrel⟩ := hrel
    have S2 := Lib.hid hrel.out
    clear hrel S1
    by_cases hlt : (k : Int) < (N : Int)
    · skip
      have hkl : k < xs.length := by have := HN.out; omega
      obtain ⟨ad, x, rfl, hx⟩ := readsI_some (HR.out _ S2.out.old) k hkl
      obtain ⟨⟨kd, n, t⟩, ia, ic, l⟩ := x
      obtain ⟨ia2, ic2, hx2⟩ := con_same HS.out hx
      try dsimp only at hx2
      obtain ⟨ad2, x_, rfl, hx_⟩ := readsI_some (HR2.out _ S2.out.old) k (List.getElem?_eq_some_iff.1 hx2).1
      clear hx_ x_
      have HK := Lib.hid (fun w' (h : Below w.heap.size w w') => readsI_at (HR.out _ h) k _ hx)
      have HK2 := Lib.hid (fun w' (h : Below w.heap.size w w') => readsI_at (HR2.out _ h) k _ hx2)
      try dsimp only at HK HK2
      have HEQ := Lib.hid (fun w' (h : Below w.heap.size w w') => eqItem_any kd n t ia ia2 ic ic2 l (fit_at HF.out hx).len w' (((HX.out _ h).at_ (rowsI_mem hx)).reads) (((HX2.out _ h).at_ (rowsI_mem hx2)).reads))
      clear hx hx2
      go_upto_region 6 with fail
      refine wp_region_held_drew (S := (fun w' => (World.cell? w' (ad.add (k * 4)) = some (.int .i64 kd) ∧ World.cell? w' (⟨(ad.add (k * 4)).block, (ad.add (k * 4)).off + 1, none⟩) = some (.int .i64 n) ∧ World.cell? w' (⟨(ad.add (k * 4)).block, (ad.add (k * 4)).off + 2, none⟩) = some (.string t) ∧ World.cell? w' (⟨(ad.add (k * 4)).block, (ad.add (k * 4)).off + 3, none⟩) = some (.slice ia l.length ic)) ∧ (World.cell? w' (ad2.add (k * 4)) = some (.int .i64 kd) ∧ World.cell? w' (⟨(ad2.add (k * 4)).block, (ad2.add (k * 4)).off + 1, none⟩) = some (.int .i64 n) ∧ World.cell? w' (⟨(ad2.add (k * 4)).block, (ad2.add (k * 4)).off + 2, none⟩) = some (.string t) ∧ World.cell? w' (⟨(ad2.add (k * 4)).block, (ad2.add (k * 4)).off + 3, none⟩) = some (.slice ia2 l.length ic2)))) (by kernel_rfl) ⟨HK.out _ (Bag.drew1 S2.out).old, HK2.out _ (Bag.drew1 S2.out).old⟩ (fun hS => ?_)
      have S3 := Lib.hid (show Sl.Sep w _ [] from Bag.drew1 S2.out)
      clear S2
      generalize World.drew _ = w1 at hS S3 ⊢
      refine tk 0 rfl ?_
      try simp only [zp0, zp1, zp2, zp3, zp4]
      refine tk 1 rfl ?_
      try simp only [zp0, zp1, zp2, zp3, zp4]
      refine tk 2 rfl ?_
      try simp only [zp0, zp1, zp2, zp3, zp4]
      refine tk 3 rfl ?_
      try simp only [zp0, zp1, zp2, zp3, zp4]
      refine tk 4 rfl ?_
      try simp only [zp0, zp1, zp2, zp3, zp4]
      refine tk 5 rfl ?_
      try simp only [zp0, zp1, zp2, zp3, zp4]
      refine tk 6 rfl ?_
      try simp only [zp0, zp1, zp2, zp3, zp4]
      refine tk 7 rfl ?_
      try simp only [zp0, zp1, zp2, zp3, zp4]
      refine Reg.one_op (i := 8) rfl (by kernel_rfl) (fun K hK => ?_)
      go_simp
      go_at_call 53
      refine (HEQ.out _ S3.out.old).mono ?_
      rintro e w2 ⟨rfl, hb⟩
      have S4 := Lib.hid (S3.out.keep hb)
      clear S3
      clear hb
      go_wp2_with fail
      refine hK.out _ _ ⟨HK.out _ S4.out.old, HK2.out _ S4.out.old⟩ (fun hS => ?_)
      clear hK K
      try simp only [zp0, zp1, zp2, zp3, zp4]
      refine tk 9 rfl ?_
      try simp only [zp0, zp1, zp2, zp3, zp4]
      refine wpAnyH_done (by kernel_rfl) ?_ _
      have hh := HK.out _ S4.out.old
      have f0 := hh.1; have f1 := hh.2.1; have f2 := hh.2.2.1; have f3 := hh.2.2.2; clear hh
      have hh := HK2.out _ S4.out.old
      have f4 := hh.1; have f5 := hh.2.1; have f6 := hh.2.2.1; have f7 := hh.2.2.2; clear hh
      go_wp2_with fail
      go_roundw
      case rel => exact ⟨k + 1, by omega, by go_num, S4.out⟩
      case measure => simp [intOf]; omega
    · skip
      go_wp2_with fail
      go_ret
      exact ⟨rfl, S2.out.old⟩
set_option maxHeartbeats 4000000 in
theorem eqStore_any (y y2 : LS) (hc : y.con = y2.con) (hf : FitS y.con) (w : World) (hr : RowsRd w w.heap.size y.rows) (hr2 : RowsRd w w.heap.size y2.rows) :
    Calls Try.prog 43 #[y.v, y2.v] w fun e w' => e = .returned (.bool true) ∧ Below w.heap.size w w' := by
  have HEI := Lib.hid (fun w' (h : Below w.heap.size w w') => eqItemS_any y.a y2.a y.c y2.c y.xs y2.xs (by have h1 := congrArg S6.items hc; exact h1) (by have h1 := hf.len; simpa [LS.con] using h1) hf.items w' (((LS.outer hr).below h).more h.size) (((LS.inner hr).below h).more h.size) (((LS.outer hr2).below h).more h.size) (((LS.inner hr2).below h).more h.size))
  obtain ⟨name, a, c, xs, auto⟩ := y
  obtain ⟨name2, a2, c2, xs2, auto2⟩ := y2
  unfold LS.con at hc
  simp only [S6.mk.injEq] at hc
  obtain ⟨rfl, hi, rfl⟩ := hc
  have hlen : xs2.length = xs.length := by have h := congrArg List.length hi; simp only [conI_length] at h; exact h.symm
  unfold LS.v LS.cells
  dsimp only at HEI ⊢
  rw [hlen] at HEI ⊢
  obtain ⟨N, hN⟩ : ∃ n, n = xs.length := ⟨_, rfl⟩
  rw [← hN] at HEI ⊢
  clear hN hlen hi hr hr2 hf
  have S1 := Lib.hid (show Sl.Sep w ((w.alloc (.cells #[.string name, .slice a N c, .int .i64 auto] 26)).alloc (.cells #[.string name, .slice a2 N c2, .int .i64 auto] 26)) [L4.boxR w.heap.size 26 #[.string name, .slice a N c, .int .i64 auto], L4.boxR (w.heap.size + 1) 26 #[.string name, .slice a2 N c2, .int .i64 auto]] from L4.push_box (L4.push_box (Sl.Sep.start w) 26 #[.string name, .slice a N c, .int .i64 auto] (w.heap.size) (by simp)) 26 #[.string name, .slice a2 N c2, .int .i64 auto] (w.heap.size + 1) (by simp))
  obtain ⟨wa, hwa⟩ : ∃ u, u = ((w.alloc (.cells #[.string name, .slice a N c, .int .i64 auto] 26)).alloc (.cells #[.string name, .slice a2 N c2, .int .i64 auto] 26)) := ⟨_, rfl⟩
  rw [← hwa] at S1
  go_enter Try.func43, Try.ntmps43
  go_upto_region 1 with fail
  rw [← hwa]
  clear hwa
  have hh := Bag.cs3 S1.out 0 rfl
  have f0 := hh.1; have f1 := hh.2.1; have f2 := hh.2.2; clear hh
  have hh := Bag.cs3 S1.out 1 rfl
  have f3 := hh.1; have f4 := hh.2.1; have f5 := hh.2.2; clear hh
  go_wp2_with fail
  go_at_call 42
  refine (HEI.out _ S1.out.old).mono ?_
  rintro e w1 ⟨rfl, hb⟩
  clear f0 f1 f2 f3 f4 f5
  have S2 := Lib.hid (S1.out.keep hb)
  clear S1
  clear hb
  have hh := Bag.cs3 S2.out 0 rfl
  have f0 := hh.1; have f1 := hh.2.1; have f2 := hh.2.2; clear hh
  have hh := Bag.cs3 S2.out 1 rfl
  have f3 := hh.1; have f4 := hh.2.1; have f5 := hh.2.2; clear hh
  go_wp2_with fail
  go_ret
  exact ⟨rfl, S2.out.old⟩
/-! marks -/
def mark1 (k : Int) (x : LI) : LI := ⟨⟨k, k + 1, markT (k + 2)⟩, x.a, x.c, marksF (k + 3) x.l.length⟩
def markI : Int → List LI → List LI
  | _, [] => []
  | k, x :: xs => mark1 k x :: markI (k + 3 + 2 * (x.l.length : Int)) xs
def endI : Int → List LI → Int
  | k, [] => k
  | k, x :: xs => endI (k + 3 + 2 * (x.l.length : Int)) xs
theorem markI_length : ∀ (k : Int) (xs : List LI), (markI k xs).length = xs.length
  | _, [] => rfl
  | k, x :: xs => by unfold markI; rw [List.length_cons, List.length_cons, markI_length]
theorem endI_snoc : ∀ (k : Int) (xs : List LI) (x : LI), endI k (xs ++ [x]) = endI k xs + 3 + 2 * (x.l.length : Int)
  | _, [], _ => rfl
  | k, y :: xs, x => endI_snoc _ xs x
theorem markI_snoc : ∀ (k : Int) (xs : List LI) (x : LI), markI k (xs ++ [x]) = markI k xs ++ [mark1 (endI k xs) x]
  | _, [], _ => rfl
  | k, y :: xs, x => by
    show mark1 k y :: markI _ (xs ++ [x]) = _
    rw [markI_snoc _ xs x]
    rfl
theorem mark1_fp (k : Int) (x : LI) : (mark1 k x).row.fp = x.row.fp := by
  unfold mark1 LI.row RowS.fp
  cases x.a <;> rfl
theorem markI_fp : ∀ (k : Int) (xs : List LI), (rowsI (markI k xs)).flatMap RowS.fp = (rowsI xs).flatMap RowS.fp
  | _, [] => rfl
  | k, x :: xs => by
    show ((mark1 k x).row :: rowsI (markI _ xs)).flatMap RowS.fp = (x.row :: rowsI xs).flatMap RowS.fp
    rw [List.flatMap_cons, List.flatMap_cons, mark1_fp, markI_fp _ xs]
theorem markB_fp (a : Option Addr) (c : Nat) (k : Int) (xs : List LI) : (bag (rowI a c (markI k xs) :: rowsI (markI k xs))).fp = (bag (rowI a c xs :: rowsI xs)).fp := by
  show (rowI a c (markI k xs) :: rowsI (markI k xs)).flatMap RowS.fp = (rowI a c xs :: rowsI xs).flatMap RowS.fp
  rw [List.flatMap_cons, List.flatMap_cons, markI_fp]
  congr 1
  unfold rowI RowS.fp
  cases a <;> rfl
theorem endI_range : ∀ (xs : List LI) (k : Int), (∀ x ∈ xs, x.l.length ≤ 1048576) → k ≤ endI k xs ∧ endI k xs ≤ k + (xs.length : Int) * 2097155
  | [], k, _ => by simp [endI]
  | x :: xs, k, h => by
    have h1 := endI_range xs (k + 3 + 2 * (x.l.length : Int)) (fun y hy => h y (List.mem_cons_of_mem _ hy))
    have h2 := h x (List.mem_cons_self ..)
    unfold endI
    rw [List.length_cons]
    omega
theorem markI_at {xs : List LI} {j : Nat} {x : LI} (k : Int) (hx : xs[j]? = some x) : (markI k xs)[j]? = some (mark1 (endI k (xs.take j)) x) := by
  obtain ⟨hj, rfl⟩ := List.getElem?_eq_some_iff.1 hx
  have e : ∀ (ys zs : List LI) (k : Int), markI k (ys ++ zs) = markI k ys ++ markI (endI k ys) zs := by
    intro ys
    induction ys with
    | nil => intro zs k; rfl
    | cons y ys ih => intro zs k; show mark1 k y :: markI _ (ys ++ zs) = _; rw [ih]; rfl
  have h2 : xs = xs.take j ++ (xs[j] :: xs.drop (j + 1)) := by rw [List.getElem_cons_drop, List.take_append_drop]
  have h3 : (xs.take j).length = j := by rw [List.length_take]; omega
  have h4 : ∀ zs, zs = xs.take j ++ (xs[j] :: xs.drop (j + 1)) → (markI k zs)[j]? = some (mark1 (endI k (xs.take j)) xs[j]) := fun zs hz => by
    rw [hz, e, List.getElem?_append_right (by rw [markI_length, h3]; exact Nat.le_refl _), markI_length, h3, Nat.sub_self]
    rfl
  exact h4 xs h2
theorem end_next {xs : List LI} {j : Nat} {x : LI} (k : Int) (hx : xs[j]? = some x) : endI k (xs.take (j + 1)) = endI k (xs.take j) + 3 + 2 * (x.l.length : Int) := by
  obtain ⟨hj, rfl⟩ := List.getElem?_eq_some_iff.1 hx
  rw [List.take_succ_eq_append_getElem hj, endI_snoc]
theorem mark_next {xs : List LI} {j : Nat} {x : LI} (k : Int) (hx : xs[j]? = some x) : markI k (xs.take (j + 1)) = markI k (xs.take j) ++ [mark1 (endI k (xs.take j)) x] := by
  obtain ⟨hj, rfl⟩ := List.getElem?_eq_some_iff.1 hx
  rw [List.take_succ_eq_append_getElem hj, markI_snoc]
theorem row_last (ds es : List LI) (x : LI) : (rowsI ds ++ rowsI (x :: es)).Perm ((rowsI ds ++ rowsI es) ++ [x.row]) := by
  show (rowsI ds ++ (x.row :: rowsI es)).Perm _
  rw [List.append_assoc]
  exact List.Perm.append_left _ (List.perm_append_comm (l₁ := [x.row]))
theorem row_back (ds es : List LI) (z : LI) : ((rowsI ds ++ rowsI es) ++ [z.row]).Perm (rowsI (ds ++ [z]) ++ rowsI es) := by
  rw [rowsI_append, List.append_assoc, List.append_assoc]
  exact List.Perm.append_left _ List.perm_append_comm
set_option maxHeartbeats 8000000 in
theorem markItemS_sep (a : Option Addr) (c : Nat) (xs : List LI) (k : Int) (W w : World) (S : Sl.Sep W w [bag (rowI a c xs :: rowsI xs), Run.restL W w (bag (rowI a c xs :: rowsI xs)).fp]) (hl : xs.length ≤ 1048576) (hlen : ∀ x ∈ xs, x.l.length ≤ 1048576) (hk0 : 0 < k) (hk1 : k ≤ 1099511627776) :
    Calls Try.prog 45 #[.slice a xs.length c, .int .i64 k] w fun e w' => e = .returned (.int .i64 (endI k xs)) ∧ Sl.Sep W w' [bag (rowI a c (markI k xs) :: rowsI (markI k xs)), Run.restL W w (bag (rowI a c xs :: rowsI xs)).fp] := by
  have HLEN := Lib.hid hlen
  obtain ⟨fps, hfps⟩ : ∃ f, f = (bag (rowI a c xs :: rowsI xs)).fp := ⟨_, rfl⟩
  rw [← hfps] at S ⊢
  clear hfps
  rcases (S.is 0 _ rfl).own (rowI a c xs) (List.mem_cons_self ..) |>.form with ⟨ha, hn0, -, hc0⟩ | ⟨g, hg, -, -, hnc, -⟩
  · have ha' : a = none := ha
    have hc' : c = 0 := hc0
    have hx : xs = [] := List.eq_nil_of_length_eq_zero hn0
    subst hx
    have H := Lib.hid S
    clear S
    go_enter Try.func45, Try.ntmps45
    go_wp2_with fail
    refine wp_loop_rounds 1 ?_
    rw [rounds_succ]
    go_wp2_with fail
    go_ret
    exact ⟨rfl, H.out⟩
  have hg' : a = some ⟨g, 0, none⟩ := hg
  subst hg'
  obtain ⟨N, hN⟩ : ∃ n, n = xs.length := ⟨_, rfl⟩
  rw [← hN] at hl ⊢
  have hl' : (N : Int) ≤ 1048576 := by omega
  have HN := Lib.hid hN
  have HK1 := Lib.hid hk1
  have S1 := Lib.hid S
  clear hg hN S hnc hlen
  have S2 := Lib.hid (show Sl.Sep W _ [Bag.bag ([rowI (some ⟨g, 0, none⟩) c xs] ++ rowsI xs), Run.restL W w fps] from S1.out)
  clear S1
  have S3 := Lib.hid (show Sl.Sep W _ [Bag.bag ([rowI (some ⟨g, 0, none⟩) c xs]), Run.restL W w fps, Bag.bag (rowsI xs)] from Bag.bag_split S2.out 0 rfl)
  clear S2
  have S4 := Lib.hid (show Sl.Sep W _ [Sv.ownV 43 4 (some ⟨g, 0, none⟩) c N (cellsI (markI k [] ++ xs.drop 0)), Run.restL W w fps, Bag.bag (rowsI xs)] from (by have h := Bag.one_of_bag S3.out 0 (r := rowI (some ⟨g, 0, none⟩) c xs) rfl; unfold RowS.res rowI at h; dsimp only at h; rw [← HN.out] at h; exact h))
  clear S3
  have S5 := Lib.hid (show Sl.Sep W _ [Sv.ownV 43 4 (some ⟨g, 0, none⟩) c N (cellsI (markI k [] ++ xs.drop 0)), Bag.bag (rowsI (markI k []) ++ rowsI (xs.drop 0)), Run.restL W w fps] from Bag.take S4.out [0, 2, 1] (by rfl) (by decide))
  clear S4
  go_enter Try.func45, Try.ntmps45
  go_wp2_with fail
  go_loopw [1, 5] (fun v i wr => ∃ (j : Nat) (m : Int), j ≤ N ∧ i = .int .i64 j ∧ v = .int .i64 m ∧ k ≤ m ∧ m ≤ k + (j : Int) * 2097155 ∧ Hid (m = endI k (xs.take j) ∧ Sl.Sep W wr [Sv.ownV 43 4 (some ⟨g, 0, none⟩) c N (cellsI (markI k (xs.take j) ++ xs.drop j)), Bag.bag (rowsI (markI k (xs.take j)) ++ rowsI (xs.drop j)), Run.restL W w fps])) (fun _ i _ => N - (intOf i).toNat)
  case atStart => exact ⟨0, k, Nat.zero_le _, rfl, rfl, by omega, by omega, And.intro rfl S5.out⟩
  case round =>
    obtain ⟨j, m, hj, rfl, rfl, hm0, hm1, hrel⟩ := hrel
    have HM := Lib.hid hrel.out.1
    have S6 := Lib.hid hrel.out.2
    clear hrel S5
    by_cases hlt : (j : Int) < (N : Int)
    · skip
      have hjl : j < xs.length := by have := HN.out; omega
      obtain ⟨x, hx⟩ : ∃ x, xs[j]? = some x := ⟨_, List.getElem?_eq_getElem hjl⟩
      have HXL := Lib.hid (HLEN.out x (List.mem_of_getElem? hx))
      have HEN := Lib.hid (end_next k hx)
      have HMN := Lib.hid (mark_next k hx)
      have HDR := Lib.hid (show xs.drop j = x :: xs.drop (j + 1) from by obtain ⟨h1, rfl⟩ := List.getElem?_eq_some_iff.1 hx; exact (List.getElem_cons_drop ..).symm)
      clear hx
      obtain ⟨⟨kd, n, t⟩, ia, ic, l⟩ := x
      dsimp only at HXL HEN
      rw [← HM.out] at HEN HMN
      have hxl : (l.length : Int) ≤ 1048576 := by have := HXL.out; omega
      have hmb : m ≤ 4611686018427387904 - 2097155 := by have := HK1.out; omega
      have HDL := Lib.hid (show (cellsI (markI k (xs.take j))).length = j * 4 by rw [cellsI_length, markI_length, List.length_take]; omega)
      have HDE := Lib.hid (show (rowsI (markI k (xs.take j)) ++ rowsI (xs.drop j)).Perm ((rowsI (markI k (xs.take j)) ++ rowsI (xs.drop (j + 1))) ++ [(LI.mk ⟨kd, n, t⟩ ia ic l).row]) from by rw [HDR.out]; exact row_last _ _ _)
      obtain ⟨R0, hR0⟩ : ∃ R0, R0 = cellsI (xs.drop (j + 1)) := ⟨_, rfl⟩
      obtain ⟨D0, hD0⟩ : ∃ D0, D0 = cellsI (markI k (xs.take j)) := ⟨_, rfl⟩
      have HR0 := Lib.hid hR0
      have HD0 := Lib.hid hD0
      rw [← hD0] at HDL
      clear hR0 hD0
      have S7 := Lib.hid (show Sl.Sep W _ [Sv.ownV 43 4 (some ⟨g, 0, none⟩) c N (D0 ++ (.int .i64 kd :: .int .i64 n :: .string t :: .slice ia l.length ic :: R0)), Bag.bag (rowsI (markI k (xs.take j)) ++ rowsI (xs.drop j)), Run.restL W w fps] from (by have h := S6.out; rw [show cellsI (markI k (xs.take j) ++ xs.drop j) = D0 ++ (.int .i64 kd :: .int .i64 n :: .string t :: .slice ia l.length ic :: R0) from by rw [cellsI_append, HDR.out, cellsI_cons, ← HR0.out, ← HD0.out]] at h; exact h))
      clear S6
      have q0 := (Sv.own_at S7.out 0 rfl).cell (j * 4) (by rw [List.length_append, HDL.out]; simp <;> omega)
      have z0 := (Sv.own_at S7.out 0 rfl).free (j * 4)
      have q1 := (Sv.own_at S7.out 0 rfl).cell (j * 4 + 1) (by rw [List.length_append, HDL.out]; simp <;> omega)
      have z1 := (Sv.own_at S7.out 0 rfl).free (j * 4 + 1)
      go_wp2_with fail
      clear q0 z0 q1 z1
      have HOV := Lib.hid (show Run.over (D0 ++ (.int .i64 kd :: .int .i64 n :: .string t :: .slice ia l.length ic :: R0)) (j * 4) [.int .i64 m, .int .i64 (m + 1)] = D0 ++ (.int .i64 m :: .int .i64 (m + 1) :: .string t :: .slice ia l.length ic :: R0) from by rw [show D0 ++ (.int .i64 kd :: .int .i64 n :: .string t :: .slice ia l.length ic :: R0) = D0 ++ ([.int .i64 kd, .int .i64 n] ++ (.string t :: .slice ia l.length ic :: R0)) from by simp, Run.over_mid D0 (.string t :: .slice ia l.length ic :: R0) [.int .i64 m, .int .i64 (m + 1)] [.int .i64 kd, .int .i64 n] (j * 4) (by simp [HDL.out]) rfl]; simp)
      have S8 := Lib.hid (show Sl.Sep W ((wr.setCell ⟨g, j * 4, none⟩ (.int .i64 m)).setCell ⟨g, j * 4 + 1, none⟩ (.int .i64 (m + 1))) [Sv.ownV 43 4 (some ⟨g, 0, none⟩) c N (D0 ++ (.int .i64 m :: .int .i64 (m + 1) :: .string t :: .slice ia l.length ic :: R0)), Bag.bag (rowsI (markI k (xs.take j)) ++ rowsI (xs.drop j)), Run.restL W w fps] from (by have h := Run.put_run S7.out 0 rfl (j * 4) [.int .i64 m, .int .i64 (m + 1)] (by rw [List.length_append, HDL.out]; simp <;> omega); rw [HOV.out] at h; exact h))
      clear S7
      clear HOV
      have HMT := Lib.hid (fun w' => L5.markText_any (m + 2) (by omega) (by omega) w')
      have e2 : m + 1 + 1 = m + 2 := by omega
      try simp only [e2]
      go_at_call 99
      refine (HMT.out _).mono ?_
      rintro e w1 ⟨rfl, hb⟩
      have S9 := Lib.hid (S8.out.keep hb)
      clear S8
      clear hb
      have q2 := (Sv.own_at S9.out 0 rfl).cell (j * 4 + 2) (by rw [List.length_append, HDL.out]; simp <;> omega)
      have z2 := (Sv.own_at S9.out 0 rfl).free (j * 4 + 2)
      go_upto_region 9 with fail
      clear q2 z2
      have HOV := Lib.hid (show Run.over (D0 ++ (.int .i64 m :: .int .i64 (m + 1) :: .string t :: .slice ia l.length ic :: R0)) (j * 4 + 2) [.string (markT (m + 2))] = D0 ++ (.int .i64 m :: .int .i64 (m + 1) :: .string (markT (m + 2)) :: .slice ia l.length ic :: R0) from by rw [show D0 ++ (.int .i64 m :: .int .i64 (m + 1) :: .string t :: .slice ia l.length ic :: R0) = (D0 ++ ([.int .i64 m, .int .i64 (m + 1)] : List Value)) ++ ([.string t] ++ (.slice ia l.length ic :: R0)) from by simp, Run.over_mid (D0 ++ ([.int .i64 m, .int .i64 (m + 1)] : List Value)) (.slice ia l.length ic :: R0) [.string (markT (m + 2))] [.string t] (j * 4 + 2) (by simp [HDL.out]) rfl]; simp)
      have S10 := Lib.hid (show Sl.Sep W (w1.setCell ⟨g, j * 4 + 2, none⟩ (.string (markT (m + 2)))) [Sv.ownV 43 4 (some ⟨g, 0, none⟩) c N (D0 ++ (.int .i64 m :: .int .i64 (m + 1) :: .string (markT (m + 2)) :: .slice ia l.length ic :: R0)), Bag.bag (rowsI (markI k (xs.take j)) ++ rowsI (xs.drop j)), Run.restL W w fps] from (by have h := Run.put_run S9.out 0 rfl (j * 4 + 2) [.string (markT (m + 2))] (by rw [List.length_append, HDL.out]; simp <;> omega); rw [HOV.out] at h; exact h))
      clear S9
      clear HOV
      have e3 : m + 2 + 1 = m + 3 := by omega
      have q3 : World.cell? (w1.setCell ⟨g, j * 4 + 2, none⟩ (.string (markT (m + 2)))) ⟨g, j * 4 + 3, none⟩ = some (.slice ia l.length ic) := by rw [(Sv.own_at S10.out 0 rfl).cell (j * 4 + 3) (by rw [List.length_append, HDL.out]; simp <;> omega)]; simp [List.getElem_append, HDL.out]
      have S11 := Lib.hid (show Sl.Sep W _ [Sv.ownV 43 4 (some ⟨g, 0, none⟩) c N (D0 ++ (.int .i64 m :: .int .i64 (m + 1) :: .string (markT (m + 2)) :: .slice ia l.length ic :: R0)), Bag.bag ((rowsI (markI k (xs.take j)) ++ rowsI (xs.drop (j + 1))) ++ [(LI.mk ⟨kd, n, t⟩ ia ic l).row]), Run.restL W w fps] from Bag.bag_perm S10.out 1 rfl HDE.out)
      clear S10
      have S12 := Lib.hid (show Sl.Sep W _ [Sv.ownV 43 4 (some ⟨g, 0, none⟩) c N (D0 ++ (.int .i64 m :: .int .i64 (m + 1) :: .string (markT (m + 2)) :: .slice ia l.length ic :: R0)), Bag.bag (rowsI (markI k (xs.take j)) ++ rowsI (xs.drop (j + 1))), Run.restL W w fps, Bag.bag ([(LI.mk ⟨kd, n, t⟩ ia ic l).row])] from Bag.bag_split S11.out 1 rfl)
      clear S11
      have S13 := Lib.hid (show Sl.Sep W _ [Sv.ownV 43 4 (some ⟨g, 0, none⟩) c N (D0 ++ (.int .i64 m :: .int .i64 (m + 1) :: .string (markT (m + 2)) :: .slice ia l.length ic :: R0)), Bag.bag (rowsI (markI k (xs.take j)) ++ rowsI (xs.drop (j + 1))), Run.restL W w fps, Sv.ownV 107 2 ia ic l.length (cellsF l)] from Bag.one_of_bag S12.out 3 (r := (LI.mk ⟨kd, n, t⟩ ia ic l).row) rfl)
      clear S12
      go_wp2_with fail
      try simp only [e2, e3]
      go_at_call 100
      refine (L5.markFieldS_any ia ic l (m + 3) _ (Sv.own_at S13.out 3 rfl) (by omega) (by omega) (by omega)).mono ?_
      rintro e w7 ⟨rfl, ho, ht⟩
      clear q3
      have S14 := Lib.hid (show Sl.Sep W _ [Sv.ownV 43 4 (some ⟨g, 0, none⟩) c N (D0 ++ (.int .i64 m :: .int .i64 (m + 1) :: .string (markT (m + 2)) :: .slice ia l.length ic :: R0)), Bag.bag (rowsI (markI k (xs.take j)) ++ rowsI (xs.drop (j + 1))), Run.restL W w fps, Sv.ownV 107 2 ia ic l.length (cellsF (marksF (m + 3) l.length))] from S13.out.put 3 rfl ht ho (fun b hb => hb))
      clear S13
      clear ho ht
      have S15 := Lib.hid (show Sl.Sep W _ [Sv.ownV 43 4 (some ⟨g, 0, none⟩) c N (D0 ++ (.int .i64 m :: .int .i64 (m + 1) :: .string (markT (m + 2)) :: .slice ia l.length ic :: R0)), Bag.bag (rowsI (markI k (xs.take j)) ++ rowsI (xs.drop (j + 1))), Run.restL W w fps, Bag.bag ([(mark1 m (LI.mk ⟨kd, n, t⟩ ia ic l)).row])] from Bag.bag_of_one S14.out 3 (r := (mark1 m (LI.mk ⟨kd, n, t⟩ ia ic l)).row) (by unfold RowS.res LI.row mark1; dsimp only; rw [marksF_length]; rfl))
      clear S14
      have S16 := Lib.hid (show Sl.Sep W _ [Sv.ownV 43 4 (some ⟨g, 0, none⟩) c N (D0 ++ (.int .i64 m :: .int .i64 (m + 1) :: .string (markT (m + 2)) :: .slice ia l.length ic :: R0)), Bag.bag ((rowsI (markI k (xs.take j)) ++ rowsI (xs.drop (j + 1))) ++ ([(mark1 m (LI.mk ⟨kd, n, t⟩ ia ic l)).row])), Run.restL W w fps, Bag.bag ([])] from Bag.bag_join S15.out 1 3 (by decide) rfl rfl)
      clear S15
      have S17 := Lib.hid (show Sl.Sep W _ [Sv.ownV 43 4 (some ⟨g, 0, none⟩) c N (D0 ++ (.int .i64 m :: .int .i64 (m + 1) :: .string (markT (m + 2)) :: .slice ia l.length ic :: R0)), Bag.bag (rowsI (markI k (xs.take (j + 1))) ++ rowsI (xs.drop (j + 1))), Run.restL W w fps, Bag.bag ([])] from (by rw [HMN.out]; exact Bag.bag_perm S16.out 1 rfl (row_back _ _ _)))
      clear S16
      have S18 := Lib.hid (show Sl.Sep W _ [Sv.ownV 43 4 (some ⟨g, 0, none⟩) c N (D0 ++ (.int .i64 m :: .int .i64 (m + 1) :: .string (markT (m + 2)) :: .slice ia l.length ic :: R0)), Bag.bag (rowsI (markI k (xs.take (j + 1))) ++ rowsI (xs.drop (j + 1))), Run.restL W w fps] from Bag.take S17.out [0, 1, 2] (by rfl) (by decide))
      clear S17
      have HROW := Lib.hid (show cellsI (markI k (xs.take (j + 1)) ++ xs.drop (j + 1)) = D0 ++ (.int .i64 m :: .int .i64 (m + 1) :: .string (markT (m + 2)) :: .slice ia l.length ic :: R0) from by rw [HMN.out, cellsI_append, cellsI_append, ← HR0.out, ← HD0.out, List.append_assoc]; show D0 ++ (.int .i64 m :: .int .i64 (m + 1) :: .string (markT (m + 2)) :: .slice ia (marksF (m + 3) l.length).length ic :: R0) = _; rw [marksF_length])
      have S19 := Lib.hid (show Sl.Sep W _ [Sv.ownV 43 4 (some ⟨g, 0, none⟩) c N (cellsI (markI k (xs.take (j + 1)) ++ xs.drop (j + 1))), Bag.bag (rowsI (markI k (xs.take (j + 1))) ++ rowsI (xs.drop (j + 1))), Run.restL W w fps] from (by rw [HROW.out]; exact S18.out))
      clear S18
      go_wp2_with fail
      go_roundw
      case rel => exact ⟨j + 1, m + 3 + 2 * (l.length : Int), by omega, by go_num, by first | rfl | go_num, by omega, by omega, And.intro HEN.out.symm S19.out⟩
      case measure => simp [intOf]; omega
    · skip
      obtain rfl : j = N := by omega
      have hT : xs.take j = xs := List.take_of_length_le (by have := HN.out; omega)
      have hD : xs.drop j = [] := List.drop_of_length_le (by have := HN.out; omega)
      have HT := Lib.hid hT
      have HD := Lib.hid hD
      clear hT hD
      have S7 := Lib.hid (show Sl.Sep W _ [Sv.ownV 43 4 (some ⟨g, 0, none⟩) c j (cellsI (markI k xs)), Bag.bag (rowsI (markI k xs)), Run.restL W w fps] from (by have h := S6.out; rw [HT.out, HD.out, List.append_nil, show rowsI (markI k xs) ++ rowsI [] = rowsI (markI k xs) from List.append_nil _] at h; exact h))
      clear S6
      have S8 := Lib.hid (show Sl.Sep W _ [Bag.bag ([rowI (some ⟨g, 0, none⟩) c (markI k xs)]), Bag.bag (rowsI (markI k xs)), Run.restL W w fps] from Bag.bag_of_one S7.out 0 (r := rowI (some ⟨g, 0, none⟩) c (markI k xs)) (by unfold RowS.res rowI; dsimp only; rw [markI_length, ← HN.out]; rfl))
      clear S7
      have S9 := Lib.hid (show Sl.Sep W _ [Bag.bag ([rowI (some ⟨g, 0, none⟩) c (markI k xs)] ++ (rowsI (markI k xs))), Bag.bag ([]), Run.restL W w fps] from Bag.bag_join S8.out 0 1 (by decide) rfl rfl)
      clear S8
      have S10 := Lib.hid (show Sl.Sep W _ [Bag.bag ([rowI (some ⟨g, 0, none⟩) c (markI k xs)] ++ (rowsI (markI k xs))), Run.restL W w fps] from Bag.take S9.out [0, 2] (by rfl) (by decide))
      clear S9
      go_wp2_with fail
      go_ret
      exact ⟨by rw [← HT.out, ← HM.out]; rfl, S10.out⟩
theorem markItemS_any {W w : World} {rs : List Res} (h : Sl.Sep W w rs) (i : Nat) {a : Option Addr} {c : Nat} {xs : List LI} (hi : rs[i]? = some (bag (rowI a c xs :: rowsI xs))) (k : Int) (hl : xs.length ≤ 1048576) (hlen : ∀ x ∈ xs, x.l.length ≤ 1048576) (hk0 : 0 < k) (hk1 : k ≤ 1099511627776) :
    Calls Try.prog 45 #[.slice a xs.length c, .int .i64 k] w fun e w' => e = .returned (.int .i64 (endI k xs)) ∧ Sl.Sep W w' (rs.set i (bag (rowI a c (markI k xs) :: rowsI (markI k xs)))) :=
  (markItemS_sep a c xs k W w (Run.restL_start h i hi) hl hlen hk0 hk1).mono fun _ _ ⟨he, hs⟩ => ⟨he, Run.restL_back h i hi hs (markB_fp a c k xs)⟩
def LS.marked (k : Int) (y : LS) : LS := ⟨y.name, y.a, y.c, markI k y.xs, y.auto⟩
set_option maxHeartbeats 1000000 in
theorem markStore_any {W w : World} {rs : List Res} (h : Sl.Sep W w rs) (i : Nat) {y : LS} (hi : rs[i]? = some (bag y.rows)) (k : Int) (hf : FitS y.con) (hk0 : 0 < k) (hk1 : k ≤ 1099511627776) :
    Calls Try.prog 44 #[y.v, .int .i64 k] w fun e w' => e = .returned (.int .i64 (endI k y.xs)) ∧ Sl.Sep W w' (rs.set i (bag (LS.marked k y).rows)) := by
  have HC := Lib.hid (fun o => markItemS_any (h.alloc o) i hi k (by have h1 := hf.len; simpa [LS.con] using h1) (fun x hx => (hf.items x.con (List.mem_map.2 ⟨x, hx, rfl⟩)).len) hk0 hk1)
  obtain ⟨name, a, c, xs, auto⟩ := y
  unfold LS.v LS.cells
  dsimp only at HC ⊢
  obtain ⟨N, hN⟩ : ∃ n, n = xs.length := ⟨_, rfl⟩
  rw [← hN] at HC ⊢
  clear hN hf
  go_enter Try.func44, Try.ntmps44
  go_wp2_with (go_at_call 45; refine (HC.out _).mono ?_; rintro e w2 ⟨rfl, ho⟩; have HO := Lib.hid ho; clear ho)
  go_ret
  exact ⟨rfl, HO.out⟩
set_option maxHeartbeats 4000000 in
theorem heldItemS_any (a : Option Addr) (c : Nat) (xs : List LI) (k : Int) (hl : xs.length ≤ 1048576) (hlen : ∀ x ∈ xs, x.l.length ≤ 1048576) (hk0 : 0 < k) (hk1 : k ≤ 1099511627776) (w : World) (hr : Reads w w.heap.size a (cellsI (markI k xs))) (hx : RowsRd w w.heap.size (rowsI (markI k xs))) :
    Calls Try.prog 46 #[.slice a xs.length c, .int .i64 k] w fun e w' => e = .returned (.int .i64 (endI k xs)) ∧ Below w.heap.size w w' := by
  have HR := Lib.hid (fun w' (h : Below w.heap.size w w') => hr.below h)
  have HX := Lib.hid (fun w' (h : Below w.heap.size w w') => (hx.below h).more h.size)
  have HLEN := Lib.hid hlen
  obtain ⟨N, hN⟩ : ∃ n, n = xs.length := ⟨_, rfl⟩
  rw [← hN] at hl ⊢
  have hl' : (N : Int) ≤ 1048576 := by omega
  have HN := Lib.hid hN
  have HK1 := Lib.hid hk1
  clear hN hr hx hlen
  have S1 := Lib.hid (show Sl.Sep w w [] from Sl.Sep.start w)
  go_enter Try.func46, Try.ntmps46
  go_wp2_with fail
  go_loopw [1, 5] (fun v i wr => ∃ (j : Nat) (m : Int), j ≤ N ∧ i = .int .i64 j ∧ v = .int .i64 m ∧ k ≤ m ∧ m ≤ k + (j : Int) * 2097155 ∧ Hid (m = endI k (xs.take j) ∧ Sl.Sep w wr [])) (fun _ i _ => N - (intOf i).toNat)
  case atStart => exact ⟨0, k, Nat.zero_le _, rfl, rfl, by omega, by omega, And.intro rfl S1.out⟩
  case round =>
    obtain ⟨j, m, hj, rfl, rfl, hm0, hm1, hrel⟩ := hrel
    have HM := Lib.hid hrel.out.1
    have S2 := Lib.hid hrel.out.2
    clear hrel S1
    by_cases hlt : (j : Int) < (N : Int)
    · skip
      have hjl : j < xs.length := by have := HN.out; omega
      obtain ⟨x, hx⟩ : ∃ x, xs[j]? = some x := ⟨_, List.getElem?_eq_getElem hjl⟩
      have HXL := Lib.hid (HLEN.out x (List.mem_of_getElem? hx))
      have HEN := Lib.hid (end_next k hx)
      have hmx := markI_at k hx
      rw [← HM.out] at hmx HEN
      clear hx
      obtain ⟨⟨kd, n, t⟩, ia, ic, l⟩ := x
      dsimp only at HXL HEN
      obtain ⟨ad, x_, rfl, hx_⟩ := readsI_some (HR.out _ S2.out.old) j (List.getElem?_eq_some_iff.1 hmx).1
      clear hx_ x_
      have HK := Lib.hid (fun w' (h : Below w.heap.size w w') => readsI_at (HR.out _ h) j _ hmx)
      unfold mark1 at HK
      dsimp only at HK
      have HHF := Lib.hid (fun w' (h : Below w.heap.size w w') => L5.heldFieldS_any ia ic l.length (m + 3) w' (((HX.out _ h).at_ (rowsI_mem hmx)).reads) (by have := HXL.out; omega) (by omega) (by have := HK1.out; omega))
      have hxl : (l.length : Int) ≤ 1048576 := by have := HXL.out; omega
      have hmb : m ≤ 4611686018427387904 - 2097155 := by have := HK1.out; omega
      obtain ⟨tt, htt⟩ : ∃ t, markT (m + 2) = t := ⟨_, rfl⟩
      have HMT := Lib.hid (fun w' => L5.markText_any (m + 2) (by omega) (by omega) w')
      rw [htt] at HMT HK
      clear htt hmx
      have hML : (marksF (m + 3) l.length).length = l.length := marksF_length _ _
      rw [hML] at HK
      clear hML
      have e2 : m + 1 + 1 = m + 2 := by omega
      have e3 : m + 2 + 1 = m + 3 := by omega
      have hh := HK.out _ S2.out.old
      have f0 := hh.1; have f1 := hh.2.1; have f2 := hh.2.2.1; have f3 := hh.2.2.2; clear hh
      go_upto_region 10 with fail
      clear f0 f1 f2 f3
      refine wp_region_held_drew (S := (fun w' => (World.cell? w' (ad.add (j * 4)) = some (.int .i64 m) ∧ World.cell? w' (⟨(ad.add (j * 4)).block, (ad.add (j * 4)).off + 1, none⟩) = some (.int .i64 (m + 1)) ∧ World.cell? w' (⟨(ad.add (j * 4)).block, (ad.add (j * 4)).off + 2, none⟩) = some (.string tt) ∧ World.cell? w' (⟨(ad.add (j * 4)).block, (ad.add (j * 4)).off + 3, none⟩) = some (.slice ia l.length ic)))) (by kernel_rfl) (HK.out _ (Bag.drew1 S2.out).old) (fun hS => ?_)
      have S3 := Lib.hid (show Sl.Sep w _ [] from Bag.drew1 S2.out)
      clear S2
      generalize World.drew _ = w1 at hS S3 ⊢
      refine tk 0 rfl ?_
      try simp only [zp0, zp1, zp2, zp3, zp4]
      refine tk 1 rfl ?_
      try simp only [zp0, zp1, zp2, zp3, zp4]
      refine tk 2 rfl ?_
      try simp only [zp0, zp1, zp2, zp3, zp4]
      refine tk 3 rfl ?_
      try simp only [zp0, zp1, zp2, zp3, zp4]
      refine tk 4 rfl ?_
      try simp only [zp0, zp1, zp2, zp3, zp4]
      refine tk 5 rfl ?_
      try simp only [zp0, zp1, zp2, zp3, zp4]
      refine tk 6 rfl ?_
      try simp only [zp0, zp1, zp2, zp3, zp4]
      refine Reg.one_op (i := 7) rfl (by kernel_rfl) (fun K hK => ?_)
      go_simp
      try simp only [e2]
      go_at_call 99
      refine (HMT.out _).mono ?_
      rintro e w2 ⟨rfl, hb⟩
      have S4 := Lib.hid (S3.out.keep hb)
      clear S3
      clear hb
      go_wp2_with fail
      refine hK.out _ _ (HK.out _ S4.out.old) (fun hS => ?_)
      clear hK K
      try simp only [zp0, zp1, zp2, zp3, zp4]
      refine tk 8 rfl ?_
      try simp only [zp0, zp1, zp2, zp3, zp4]
      refine wpAnyH_done (by kernel_rfl) ?_ _
      have hh := HK.out _ S4.out.old
      have f0 := hh.1; have f1 := hh.2.1; have f2 := hh.2.2.1; have f3 := hh.2.2.2; clear hh
      go_wp2_with fail
      try simp only [e2, e3]
      go_at_call 101
      refine (HHF.out _ S4.out.old).mono ?_
      rintro e w3 ⟨rfl, hb⟩
      clear f0 f1 f2 f3
      have S5 := Lib.hid (S4.out.keep hb)
      clear S4
      clear hb
      have hh := HK.out _ S5.out.old
      have f0 := hh.1; have f1 := hh.2.1; have f2 := hh.2.2.1; have f3 := hh.2.2.2; clear hh
      have hneg : ¬ (m + 3 + 2 * (l.length : Int) < 0) := by omega
      go_wp2_with fail
      go_roundw
      case rel => exact ⟨j + 1, m + 3 + 2 * (l.length : Int), by omega, by go_num, by first | rfl | go_num, by omega, by omega, And.intro HEN.out.symm S5.out⟩
      case measure => simp [intOf]; omega
    · skip
      obtain rfl : j = N := by omega
      have hT : xs.take j = xs := List.take_of_length_le (by have := HN.out; omega)
      have HT := Lib.hid hT
      clear hT
      go_wp2_with fail
      go_ret
      exact ⟨by have h := HM.out; rw [HT.out] at h; rw [← h]; rfl, S2.out.old⟩
end Go.Proofs.Ytmnedjhfibmcnaa.L6

/-
  Plain mathematics of chapter 5's DecodeRecord: a field, some fields and a record read from bytes; what was read is what would be written. No condition.
-/
namespace Go.Proofs.Ytmnedjhfibmcnaa.L5
set_option maxRecDepth 100000
open L2
open L4 (toU toI toI_toU)

def rdF (l : List Int) (off : Int) : Option (F × Int) :=
  if rbB l off 8 && rdB l (rbE l off 8) then some (⟨⟨(toU (rbL l off 8)).toArray⟩, rdN l (rbE l off 8)⟩, rdE l (rbE l off 8)) else none
def rdFs (l : List Int) : Int → Nat → Option (List F × Int)
  | off, 0 => some ([], off)
  | off, k + 1 => match rdF l off with
    | none => none
    | some (f, e) => match rdFs l e k with
      | none => none
      | some (fs, e2) => some (f :: fs, e2)
def RfMid (l : List Int) (off : Int) (n k : Nat) (acc : List F) (o : Int) : Prop := acc.length = k ∧ rdFs l off n = (rdFs l o (n - k)).map fun p => (acc ++ p.1, p.2)
theorem RfMid.start (l : List Int) (off : Int) (n : Nat) : RfMid l off n 0 [] off := ⟨rfl, by simp⟩
theorem RfMid.none {l : List Int} {off : Int} {n k : Nat} {acc : List F} {o : Int} (h : RfMid l off n k acc o) (hk : k < n) (hr : rdF l o = Option.none) : rdFs l off n = Option.none := by
  rw [h.2, show n - k = (n - (k + 1)) + 1 by omega, rdFs, hr]
  rfl
theorem RfMid.next {l : List Int} {off : Int} {n k : Nat} {acc : List F} {o e : Int} {f : F} (h : RfMid l off n k acc o) (hk : k < n) (hr : rdF l o = some (f, e)) : RfMid l off n (k + 1) (acc ++ [f]) e := by
  refine ⟨by simp [h.1], ?_⟩
  rw [h.2, show n - k = (n - (k + 1)) + 1 by omega, rdFs, hr]
  simp only
  cases rdFs l e (n - (k + 1)) with
  | none => rfl
  | some p => simp
end Go.Proofs.Ytmnedjhfibmcnaa.L5

/-
  Chapter 6: what an encoding holds at most; sizes and choices item by item. No condition.
-/
namespace Go.Proofs.Ytmnedjhfibmcnaa.L6
set_option maxRecDepth 100000
open L4 (K isK cmpK R inR encU)
open L5 (F isR isN cellsF encR eqR Small)
open Go.ChangeShapes Go.WideShapes Go.ChangeAt Go.RowKit Mem Sl Ex L2 Sv Bag
set_option linter.unusedVariables false
set_option linter.unusedSimpArgs false

theorem conI_snoc (ys : List LI) (x : LI) : conI (ys ++ [x]) = conI ys ++ [x.con] := List.map_append
end Go.Proofs.Ytmnedjhfibmcnaa.L6

/-
  Chapter 7's mathematics: items by a field, in order; what a cursor finds next. No condition.
-/
namespace Go.Proofs.Ytmnedjhfibmcnaa.L7
set_option maxRecDepth 100000
open L4 (K isK cmpK R inR encU)
open L5 (F isR isN cellsF encR eqR Small getO getN getB)
open L6 (It)
set_option linter.unusedVariables false
set_option linter.unusedSimpArgs false

def less7 (t : List UInt8) (a b : It) : Bool := decide (getN a.l t < getN b.l t) || (getN a.l t == getN b.l t && decide (cmpK a.k b.k < 0))
def backP (t : List UInt8) (x : It) (l : List It) : Nat → Nat
  | 0 => 0
  | n + 1 => match l[n]? with
    | none => n + 1
    | some y => if less7 t x y then backP t x l n else n + 1
theorem backP_le (t : List UInt8) (x : It) (l : List It) : ∀ n, backP t x l n ≤ n
  | 0 => Nat.le_refl _
  | n + 1 => by
    unfold backP
    split
    · exact Nat.le_refl _
    · split
      · exact Nat.le_succ_of_le (backP_le t x l n)
      · exact Nat.le_refl _
theorem backP_go {t : List UInt8} {x y : It} {l : List It} {n : Nat} (h : l[n]? = some y) (hl : less7 t x y = true) : backP t x l (n + 1) = backP t x l n := by
  rw [backP, h]
  dsimp only
  rw [if_pos hl]
theorem backP_stop {t : List UInt8} {x y : It} {l : List It} {n : Nat} (h : l[n]? = some y) (hl : less7 t x y = false) : backP t x l (n + 1) = n + 1 := by
  rw [backP, h]
  dsimp only
  rw [if_neg (by rw [hl]; exact Bool.false_ne_true)]
def insX (t : List UInt8) (l : List It) (x : It) : List It := l.take (backP t x l l.length) ++ x :: l.drop (backP t x l l.length)
def stepX (t : List UInt8) (l : List It) (x : It) : List It := if getB x.l t then insX t l x else l
def idxI (xs : List It) (t : List UInt8) : List It := xs.foldl (stepX t) []
theorem insX_len (t : List UInt8) (l : List It) (x : It) : (insX t l x).length = l.length + 1 := by
  have := backP_le t x l l.length
  unfold insX
  simp only [List.length_append, List.length_take, List.length_cons, List.length_drop]
  omega
theorem idxI_take {xs : List It} {t : List UInt8} {k : Nat} {x : It} (h : xs[k]? = some x) : idxI (xs.take (k + 1)) t = stepX t (idxI (xs.take k) t) x := by
  obtain ⟨hk, rfl⟩ := List.getElem?_eq_some_iff.1 h
  unfold idxI
  rw [List.take_succ_eq_append_getElem hk, List.foldl_append]
  rfl
theorem idxI_len (xs : List It) (t : List UInt8) : (idxI xs t).length ≤ xs.length := by
  have key : ∀ (xs l : List It), (xs.foldl (stepX t) l).length ≤ l.length + xs.length := by
    intro xs
    induction xs with
    | nil => intro l; exact Nat.le_refl _
    | cons x xs ih =>
      intro l
      have h1 := ih (stepX t l x)
      have h2 : (stepX t l x).length ≤ l.length + 1 := by
        unfold stepX
        split
        · rw [insX_len]; exact Nat.le_refl _
        · omega
      rw [List.foldl_cons, List.length_cons]
      omega
  have := key xs []
  simpa [idxI] using this
theorem idxI_mem {xs : List It} {t : List UInt8} : ∀ x ∈ idxI xs t, x ∈ xs ∧ getB x.l t = true := by
  have key : ∀ (xs l : List It), ∀ x ∈ xs.foldl (stepX t) l, x ∈ l ∨ (x ∈ xs ∧ getB x.l t = true) := by
    intro xs
    induction xs with
    | nil => intro l x hx; exact .inl hx
    | cons y ys ih =>
      intro l x hx
      rcases ih _ x hx with h | ⟨h, h2⟩
      · unfold stepX at h
        split at h
        · rename_i hb
          unfold insX at h
          rcases List.mem_append.1 h with h | h
          · exact .inl (List.mem_of_mem_take h)
          · rcases List.mem_cons.1 h with rfl | h
            · exact .inr ⟨List.mem_cons_self .., hb⟩
            · exact .inl (List.mem_of_mem_drop h)
        · exact .inl h
      · exact .inr ⟨List.mem_cons_of_mem _ h, h2⟩
  intro x hx
  rcases key xs [] x hx with h | h
  · cases h
  · exact h
/-! ### cursors -/
structure Cu where
  r : R
  back : Bool
  st : Bool
  k : K
def Cu.v (x : Cu) : Value := .agg #[.bool x.r.hl, .bool x.r.hh, .int .i64 x.r.lo.kind, .int .i64 x.r.lo.n, .string x.r.lo.text, .int .i64 x.r.hi.kind, .int .i64 x.r.hi.n, .string x.r.hi.text, .bool x.back, .bool x.st, .int .i64 x.k.kind, .int .i64 x.k.n, .string x.k.text]
def Cu.to (x : Cu) (k : K) : Cu := ⟨x.r, x.back, true, k⟩
end Go.Proofs.Ytmnedjhfibmcnaa.L7

/-
  The exact laws' helpers for cursors: a copy, the room, comparisons of equal ones. Conditions: texts of at most the greatest length. (Written by my program gen_l7e.py.)
-/
namespace Go.Proofs.Ytmnedjhfibmcnaa.L7
set_option maxRecDepth 100000
open L4 (K isK cmpK R inR encU)
open L6
open Go.ChangeShapes Go.WideShapes Go.ChangeAt Go.RowKit Mem Sl Ex L2 Sv Bag
set_option linter.unusedVariables false
set_option linter.unusedSimpArgs false

def Cu.left (n : Int) (x : Cu) : Int := if x.r.left n < 0 then -1 else L4.left (x.r.left n) x.k.text
end Go.Proofs.Ytmnedjhfibmcnaa.L7

/-
  The contracts of chapter 6's functions of the specification that only read: FindItem, IsStore, EqualStores, SizeStore. Conditions: keys' texts of at most 2^40 bytes, at most 2^20 fields and items. (Written by my program gen_l6b.py.)
-/
namespace Go.Proofs.Ytmnedjhfibmcnaa.L6
set_option maxRecDepth 100000
open L4 (K isK cmpK R inR encU)
open L5 (F isR isN cellsF encR eqR Small)
open Go.ChangeShapes Go.WideShapes Go.ChangeAt Go.RowKit Mem Sl Ex L2 Sv Bag
set_option linter.unusedVariables false
set_option linter.unusedSimpArgs false

theorem con_of {xs : List LI} {k : Nat} {x : LI} (hx : xs[k]? = some x) : (conI xs)[k]? = some x.con := by unfold conI; rw [List.getElem?_map, hx]; rfl
end Go.Proofs.Ytmnedjhfibmcnaa.L6

/-
  Begun: what l5Read and DecodeRecord (chapter 5) need: an append onto one of several owned things outside a drawn region; three of several things; strings made of bytes. No condition.
-/
namespace Go.Proofs.Ytmnedjhfibmcnaa.L5
set_option maxRecDepth 100000
open L4 (boxR push_box box_at)
open Go.ChangeShapes Go.WideShapes Go.ChangeAt Go.RowKit Mem Sl Ex L2 Sv
set_option linter.unusedVariables false
set_option linter.unusedSimpArgs false

theorem wpList_append_v {P : Program} {W w : World} {rs : List Res} {e : TypeId} {k : Nat} {a : Option Addr} {c n : Nat} {xs : List Value} (S : Sep W w rs) (j : Nat) (hj : rs[j]? = some (ownV e k a c n xs))
    {ops : Array Oper} {rest : List Oper} {o : Oper} {act : Act} {Q : Exit → Act → World → Prop} (hgd : o.guard = none) (s x : Operand) (t : TypeId)
    (ho : o.op = .call { callee := .builtin .append, args := #[s, x], argTypes := #[t, t] })
    (i : TypeInfo) (z : Value) (bytes : Nat) (ht : P.underlying t = some (.slice e)) (hi : P.info? e = some i) (hz : i.zero = some z)
    (hsize : i.size = k) (hby : i.bytes = bytes) (hzs : z.cells.size = k) (hk : 0 < k) (n1 : Nat) (hs : act.eval s = .slice a n1 c) (hn : n1 = n)
    (B' : Nat) (A : Option Addr) (m m1 c' : Nat) (ys : List Value) (hx : act.eval x = .slice A m1 c') (hm : m1 = m) (hr : Reads w B' A ys) (hy : ys.length = m * k) (hone : ∀ u ∈ ys, u.oneCell' = true)
    (h63 : n + m ≤ maxLen) (hbytes : (n + m) * bytes ≤ 140737488355328)
    (h : ∀ a1 c1 w', Sep W w' (rs.set j (ownV e k a1 c1 (n + m) (xs ++ ys))) → wpList P ops Q rest (act.put o.dst (.slice a1 (n + m) c1)) w') : wpList P ops Q (o :: rest) act w := by
  subst hn
  subst hm
  refine wpList_plain hgd fun K hK => ?_
  obtain ⟨a1, c1, w', hrun, h2, h3, h4⟩ := run_append_rows (P := P) w 0 t o.type e i z k bytes ht hi hz hsize hby hzs hk a c n1 xs (own_at S j hj) B' A c' m1 ys hr hy hone h63 hbytes (Nat.zero_le _)
  unfold Oper.wp execOp
  simp only [ho, resolve, invoke, builtin, Sem.run_bind, Sem.run_pure, Result.andThen_ok, List.map_toArray, List.map_cons, List.map_nil, hs, hx, hrun]
  refine hK _ _ (h a1 c1 w' (Sd.put_new S j hj (Turned.of_grown h3) h2 fun b hb => ?_))
  have hb' : (Value.slice a1 (n1 + m1) c1).ownBlock = some b := by simpa [ownV] using hb
  rcases h4 b hb' with h5 | rfl
  · exact .inl (by simp [ownV, h5])
  · have := World.ownsRow.lt h2 _ hb'
    exact .inr ⟨Nat.le_refl _, this.2⟩
end Go.Proofs.Ytmnedjhfibmcnaa.L5

/-
  The contracts of chapter 7's functions of the specification, III: CursorNext, WalkStore. Conditions: keys' texts of at most 2^40 bytes, at most 2^20 fields and items. (Written by my program gen_l7c.py.)
-/
namespace Go.Proofs.Ytmnedjhfibmcnaa.L7
set_option maxRecDepth 100000
open L4 (K isK cmpK R inR encU)
open L5 (F isR isN cellsF encR eqR Small getO getN getB)
open L6
open Go.ChangeShapes Go.WideShapes Go.ChangeAt Go.RowKit Mem Sl Ex L2 Sv Bag
set_option linter.unusedVariables false
set_option linter.unusedSimpArgs false

structure FitC (x : Cu) : Prop where
  lo : x.r.lo.text.size ≤ 281474976710656
  hi : x.r.hi.text.size ≤ 281474976710656
  at_ : x.k.text.size ≤ 281474976710656

end Go.Proofs.Ytmnedjhfibmcnaa.L7

/-
  The exact laws' helpers of chapters 4 to 7 in one form for every type: a value that came in, its copy, its room, comparison, marks. Conditions: as of those helpers. (Written by my program gen_u6.py.)
-/
namespace Go.Proofs.Ytmnedjhfibmcnaa.U
set_option maxRecDepth 100000
open L4 (K isK cmpK R inR encU)
open L5 (F isR isN cellsF encR eqR Small Wide marksF)
open L6
open L7 (Cu FitC)
open Go.ChangeShapes Go.WideShapes Go.ChangeAt Go.RowKit Mem Sl Ex L2 Sv Bag
set_option linter.unusedVariables false
set_option linter.unusedSimpArgs false

def Room (fit : Prop) (u : Int) : Prop := -1 ≤ u ∧ u ≤ 1048576 ∧ (0 ≤ u → fit)

/-! ### keys, ranges, cursors: flat -/
section
variable {H : Type} {enc : TypeId × Value → H} {W : World} {b : Nat} {sp : Nat → Bool} {hd : Bool}
end
/-! ### records, items, stores: with rows -/
structure LR where
  a : Option Addr
  c : Nat
  l : List F
def LR.con (z : LR) : List F := z.l
def LR.v (z : LR) : Value := .agg #[.slice z.a z.l.length z.c]
def LR.row (z : LR) : RowS := ⟨107, 2, z.a, z.c, z.l.length, L5.cellsF z.l⟩
def LR.rows (z : LR) : List RowS := [z.row]
structure LX where
  a : Option Addr
  c : Nat
  xs : List LI
def LX.con (z : LX) : List It := conI z.xs
def LX.v (z : LX) : Value := .slice z.a z.xs.length z.c
def LX.rows (z : LX) : List RowS := rowI z.a z.c z.xs :: rowsI z.xs
def vI (z : LI) : Value := .agg #[.int .i64 z.k.kind, .int .i64 z.k.n, .string z.k.text, .slice z.a z.l.length z.c]
def Fit_ItemS (xs : List It) : Prop := xs.length ≤ 1048576 ∧ ∀ x ∈ xs, FitI x
def Few_ItemS (xs : List It) : Prop := xs.length ≤ 1048576 ∧ ∀ x ∈ xs, x.l.length ≤ 1048576
def Few_Store (s : S6) : Prop := Few_ItemS s.items
theorem Few_ItemS.of {xs : List It} (h : Fit_ItemS xs) : Few_ItemS xs := ⟨h.1, fun x hx => (h.2 x hx).len⟩
theorem Few_Store.of {s : S6} (h : FitS s) : Few_Store s := ⟨h.len, fun x hx => (h.items x hx).len⟩
theorem few_xs {xs : List LI} (h : Few_ItemS (conI xs)) : xs.length ≤ 1048576 ∧ ∀ x ∈ xs, x.l.length ≤ 1048576 := ⟨by have := h.1; rwa [conI_length] at this, fun x hx => h.2 x.con (List.mem_map.2 ⟨x, hx, rfl⟩)⟩
def end_ItemS (k : Int) (z : LX) : Int := endI k z.xs
def end_Store (k : Int) (z : LS) : Int := endI k z.xs
theorem endr_xs (k : Int) (xs : List LI) (h : Few_ItemS (conI xs)) : k ≤ endI k xs ∧ endI k xs ≤ k + 4398046511104 := by
  obtain ⟨h1, h2⟩ := few_xs h
  have := endI_range xs k h2
  omega
theorem endr_ItemS (k : Int) (z : LX) (h : Few_ItemS z.con) : k ≤ end_ItemS k z ∧ end_ItemS k z ≤ k + 4398046511104 := endr_xs k z.xs h
theorem endr_Store (k : Int) (z : LS) (h : Few_Store z.con) : k ≤ end_Store k z ∧ end_Store k z ≤ k + 4398046511104 := endr_xs k z.xs h
def LR.marked (k : Int) (z : LR) : LR := ⟨z.a, z.c, marksF k z.l.length⟩
def LX.marked (k : Int) (z : LX) : LX := ⟨z.a, z.c, markI k z.xs⟩
section
variable {H : Type} {enc : TypeId × Value → H} {W : World} {b : Nat} {sp : Nat → Bool} {hd : Bool}
theorem open_Store {b0 : Nat} {v : Value} {d : DataW H} {ps : List MemPlace} (hval : Value.okWide Try.prog W .any b0 67 v) (h0 : DataW.Trod enc Try.prog W b sp hd 67 v d ps) (hlt : ∀ p ∈ ps, p.block < W.heap.size) : ∃ z : LS, v = z.v ∧ RowsRd W W.heap.size z.rows ∧ WideS z.con := L6.open_store hval h0 hlt
end
def cs_Store (z : L6.LS) : Array Value := #[.string z.name, .slice z.a z.xs.length z.c, .int .i64 z.auto]
theorem LR.rd {w : World} {B : Nat} {z : LR} (h : RowsRd w B z.rows) : Reads w B z.a (L5.cellsF z.l) := (h.at_ (r := z.row) (List.mem_cons_self ..)).reads
theorem LX.outer {w : World} {B : Nat} {z : LX} (h : RowsRd w B z.rows) : Reads w B z.a (cellsI z.xs) := (h.at_ (r := rowI z.a z.c z.xs) (List.mem_cons_self ..)).reads
theorem LX.inner {w : World} {B : Nat} {z : LX} (h : RowsRd w B z.rows) : RowsRd w B (rowsI z.xs) := h.sub fun r hr => List.mem_cons_of_mem _ hr
theorem eq_ItemS (y z : LX) (hc : y.con = z.con) (hf : Fit_ItemS y.con) (w : World) (hr : RowsRd w w.heap.size y.rows) (hr2 : RowsRd w w.heap.size z.rows) : Calls Try.prog 42 #[y.v, z.v] w fun e w' => e = .returned (.bool true) ∧ Below w.heap.size w w' :=
  L6.eqItemS_any y.a z.a y.c z.c y.xs z.xs hc (by have := hf.1; unfold LX.con at this; rwa [conI_length] at this) hf.2 w (LX.outer hr) (LX.inner hr) (LX.outer hr2) (LX.inner hr2)
theorem mark_ItemS {W w : World} {rs : List Res} (h : Sl.Sep W w rs) (i : Nat) {z : LX} (hi : rs[i]? = some (bag z.rows)) (k : Int) (hf : Few_ItemS z.con) (hk0 : 0 < k) (hk1 : k ≤ 1099511627776) : Calls Try.prog 45 #[z.v, .int .i64 k] w fun e w' => e = .returned (.int .i64 (end_ItemS k z)) ∧ Sl.Sep W w' (rs.set i (bag (z.marked k).rows)) :=
  L6.markItemS_any h i (xs := z.xs) hi k (few_xs hf).1 (few_xs hf).2 hk0 hk1
theorem held_ItemS (z : LX) (k : Int) (hf : Few_ItemS z.con) (hk0 : 0 < k) (hk1 : k ≤ 1099511627776) (w : World) (hr : RowsRd w w.heap.size (z.marked k).rows) : Calls Try.prog 46 #[z.v, .int .i64 k] w fun e w' => e = .returned (.int .i64 (end_ItemS k z)) ∧ Below w.heap.size w w' :=
  L6.heldItemS_any z.a z.c z.xs k (few_xs hf).1 (few_xs hf).2 hk0 hk1 w (LX.outer hr) (LX.inner hr)
theorem to_Store (z : LS) (hf : FitS z.con) (w : World) (hr : RowsRd w w.heap.size z.rows) : Calls Try.prog 40 #[z.v] w fun e w' => ∃ y : LS, e = .returned y.v ∧ y.con = z.con ∧ BagOwn w' w.heap.size y.rows ∧ Below w.heap.size w w' := L6.toStore_any z hf w hr
theorem sz_Store (z : LS) (q : Int) (hw : WideS z.con) (h0 : -1 ≤ q) (h1 : q ≤ 1048576) (w : World) (hr : RowsRd w w.heap.size z.rows) : Calls Try.prog 38 #[z.v, .int .i64 q] w fun e w' => ∃ u, e = .returned (.int .i64 u) ∧ Room (FitS z.con) u ∧ Below w.heap.size w w' := L6.szStore_any z q hw h0 h1 w hr
theorem eq_Store (y z : LS) (hc : y.con = z.con) (hf : FitS y.con) (w : World) (hr : RowsRd w w.heap.size y.rows) (hr2 : RowsRd w w.heap.size z.rows) : Calls Try.prog 43 #[y.v, z.v] w fun e w' => e = .returned (.bool true) ∧ Below w.heap.size w w' := L6.eqStore_any y z hc hf w hr hr2
theorem mark_Store {W w : World} {rs : List Res} (h : Sl.Sep W w rs) (i : Nat) {z : LS} (hi : rs[i]? = some (bag z.rows)) (k : Int) (hf : FitS z.con) (hk0 : 0 < k) (hk1 : k ≤ 1099511627776) : Calls Try.prog 44 #[z.v, .int .i64 k] w fun e w' => e = .returned (.int .i64 (end_Store k z)) ∧ Sl.Sep W w' (rs.set i (bag (LS.marked k z).rows)) := L6.markStore_any h i hi k hf hk0 hk1
end Go.Proofs.Ytmnedjhfibmcnaa.U

/-
  The contracts of chapter 7's functions of the specification, I: l7Less, ItemsWith, CountWith. Conditions: keys' texts of at most 2^40 bytes, at most 2^20 fields and items. (Written by my program gen_l7a.py.)
-/
namespace Go.Proofs.Ytmnedjhfibmcnaa.L7
set_option maxRecDepth 100000
open L4 (K isK cmpK R inR encU)
open L5 (F isR isN cellsF encR eqR Small getO getN getB)
open L6
open Go.ChangeShapes Go.WideShapes Go.ChangeAt Go.RowKit Mem Sl Ex L2 Sv Bag
set_option linter.unusedVariables false
set_option linter.unusedSimpArgs false

theorem beq_no {a b : Int} (h : ¬ a = b) : (a == b) = false := by simpa using h

set_option maxHeartbeats 8000000 in
theorem l7Less_any (d1 n1 d2 n2 : Int) (t1 t2 : ByteArray) (a1 a2 : Option Addr) (c1 c2 : Nat) (l1 l2 : List F) (f : ByteArray) (ht1 : t1.size ≤ 1099511627776) (ht2 : t2.size ≤ 1099511627776) (hl1 : l1.length ≤ 1048576) (hl2 : l2.length ≤ 1048576) (w : World) (hr1 : Reads w w.heap.size a1 (cellsF l1)) (hr2 : Reads w w.heap.size a2 (cellsF l2)) :
    Calls Try.prog 102 #[.agg #[.int .i64 d1, .int .i64 n1, .string t1, .slice a1 l1.length c1], .agg #[.int .i64 d2, .int .i64 n2, .string t2, .slice a2 l2.length c2], .string f] w fun e w' => e = .returned (.bool (less7 f.data.toList ⟨⟨d1, n1, t1⟩, l1⟩ ⟨⟨d2, n2, t2⟩, l2⟩)) ∧ Below w.heap.size w w' := by
  have HR1 := Lib.hid (fun w' (h : Below w.heap.size w w') => L5.specGetField_any a1 c1 l1 f (by omega) w' ((hr1.below h).more h.size))
  have HR2 := Lib.hid (fun w' (h : Below w.heap.size w w') => L5.specGetField_any a2 c2 l2 f (by omega) w' ((hr2.below h).more h.size))
  have HCK := fun w => L4.specCompareKeys_any ⟨d1, n1, t1⟩ ⟨d2, n2, t2⟩ (by show t1.size ≤ _; omega) (by show t2.size ≤ _; omega) w
  obtain ⟨be, hbe⟩ : ∃ b, less7 f.data.toList ⟨⟨d1, n1, t1⟩, l1⟩ ⟨⟨d2, n2, t2⟩, l2⟩ = b := ⟨_, rfl⟩
  rw [hbe]
  unfold less7 at hbe
  dsimp only at hbe
  obtain ⟨na, hna⟩ : ∃ u, getN l1 f.data.toList = u := ⟨_, rfl⟩
  obtain ⟨nb, hnb⟩ : ∃ u, getN l2 f.data.toList = u := ⟨_, rfl⟩
  obtain ⟨m, hm⟩ : ∃ u, cmpK ⟨d1, n1, t1⟩ ⟨d2, n2, t2⟩ = u := ⟨_, rfl⟩
  rw [hna] at HR1
  rw [hnb] at HR2
  rw [hm] at HCK
  rw [hna, hnb, hm] at hbe
  replace HCK := Lib.hid HCK
  have HE := Lib.hid hbe
  clear hbe hna hnb hm hr1 hr2
  dsimp only [L4.K.v] at HCK
  have S1 := Lib.hid (show Sl.Sep w ((w.alloc (.cells #[.int .i64 d1, .int .i64 n1, .string t1, .slice a1 l1.length c1] 43)).alloc (.cells #[.int .i64 d2, .int .i64 n2, .string t2, .slice a2 l2.length c2] 43)) [L4.boxR w.heap.size 43 #[.int .i64 d1, .int .i64 n1, .string t1, .slice a1 l1.length c1], L4.boxR (w.heap.size + 1) 43 #[.int .i64 d2, .int .i64 n2, .string t2, .slice a2 l2.length c2]] from L4.push_box (L4.push_box (Sl.Sep.start w) 43 #[.int .i64 d1, .int .i64 n1, .string t1, .slice a1 l1.length c1] (w.heap.size) (by simp)) 43 #[.int .i64 d2, .int .i64 n2, .string t2, .slice a2 l2.length c2] (w.heap.size + 1) (by simp))
  obtain ⟨wa, hwa⟩ : ∃ u, u = ((w.alloc (.cells #[.int .i64 d1, .int .i64 n1, .string t1, .slice a1 l1.length c1] 43)).alloc (.cells #[.int .i64 d2, .int .i64 n2, .string t2, .slice a2 l2.length c2] 43)) := ⟨_, rfl⟩
  rw [← hwa] at S1
  go_enter Try.func102, Try.ntmps102
  go_upto_region 1 with fail
  rw [← hwa]
  clear hwa
  have hh := Bag.cs4 S1.out 0 rfl
  have f0 := hh.1; have f1 := hh.2.1; have f2 := hh.2.2.1; have f3 := hh.2.2.2; clear hh
  have hh := Bag.cs4 S1.out 1 rfl
  have f4 := hh.1; have f5 := hh.2.1; have f6 := hh.2.2.1; have f7 := hh.2.2.2; clear hh
  go_wp2_with fail
  go_at_call 26
  refine (HR1.out _ S1.out.old).mono ?_
  rintro e w1 ⟨rfl, hb⟩
  clear f0 f1 f2 f3 f4 f5 f6 f7
  have S2 := Lib.hid (S1.out.keep hb)
  clear S1
  clear hb
  have hh := Bag.cs4 S2.out 0 rfl
  have f0 := hh.1; have f1 := hh.2.1; have f2 := hh.2.2.1; have f3 := hh.2.2.2; clear hh
  have hh := Bag.cs4 S2.out 1 rfl
  have f4 := hh.1; have f5 := hh.2.1; have f6 := hh.2.2.1; have f7 := hh.2.2.2; clear hh
  go_wp2_with fail
  go_at_call 26
  refine (HR2.out _ S2.out.old).mono ?_
  rintro e w2 ⟨rfl, hb⟩
  clear f0 f1 f2 f3 f4 f5 f6 f7
  have S3 := Lib.hid (S2.out.keep hb)
  clear S2
  clear hb
  have hh := Bag.cs4 S3.out 0 rfl
  have f0 := hh.1; have f1 := hh.2.1; have f2 := hh.2.2.1; have f3 := hh.2.2.2; clear hh
  have hh := Bag.cs4 S3.out 1 rfl
  have f4 := hh.1; have f5 := hh.2.1; have f6 := hh.2.2.1; have f7 := hh.2.2.2; clear hh
  by_cases h1 : na < nb
  · skip
    go_wp2_with fail
    go_ret
    exact ⟨by rw [← HE.out]; simp [h1], S3.out.old⟩
  · by_cases h2 : na = nb
    · have h2' : (na == nb) = true := by simp [h2]
      go_wp2_with fail
      go_at_call 27
      refine (HCK.out _).mono ?_
      rintro e w3 ⟨rfl, hb⟩
      clear f0 f1 f2 f3 f4 f5 f6 f7
      have S4 := Lib.hid (S3.out.keep hb)
      clear S3
      clear hb
      have hh := Bag.cs4 S4.out 0 rfl
      have f0 := hh.1; have f1 := hh.2.1; have f2 := hh.2.2.1; have f3 := hh.2.2.2; clear hh
      have hh := Bag.cs4 S4.out 1 rfl
      have f4 := hh.1; have f5 := hh.2.1; have f6 := hh.2.2.1; have f7 := hh.2.2.2; clear hh
      go_wp2_with fail
      go_ret
      exact ⟨by rw [← HE.out]; simp [h1, h2], S4.out.old⟩
    · have h2' : (na == nb) = false := beq_no h2
      go_wp2_with fail
      go_ret
      exact ⟨by rw [← HE.out]; simp [h1, h2], S3.out.old⟩
end Go.Proofs.Ytmnedjhfibmcnaa.L7

/-
  The contract of chapter 6's PutItem of the specification. Conditions: keys' texts of at most 2^40 bytes, at most 2^20 fields and items. (Written by my program gen_l6e.py.)
-/
namespace Go.Proofs.Ytmnedjhfibmcnaa.L6
set_option maxRecDepth 100000
open L4 (K isK cmpK R inR encU)
open L5 (F isR isN cellsF encR eqR Small)
open Go.ChangeShapes Go.WideShapes Go.ChangeAt Go.RowKit Mem Sl Ex L2 Sv Bag
set_option linter.unusedVariables false
set_option linter.unusedSimpArgs false

theorem rowsI_ins (ys : List LI) (k : Nat) (z : LI) : (rowsI ys ++ [z.row]).Perm (rowsI (ys.take k ++ z :: ys.drop k)) := by
  have e : rowsI ys = rowsI (ys.take k) ++ rowsI (ys.drop k) := by rw [← rowsI_append, List.take_append_drop]
  rw [e, rowsI_append, List.append_assoc]
  exact List.Perm.append_left _ List.perm_append_comm
theorem cellsI_take : ∀ (ys : List LI) (k : Nat), (cellsI ys).take (k * 4) = cellsI (ys.take k)
  | [], k => by simp [cellsI]
  | y :: ys, 0 => by simp [cellsI]
  | y :: ys, k + 1 => by
    rw [List.take_succ_cons, cellsI_cons, cellsI_cons, ← cellsI_take ys k, show (k + 1) * 4 = k * 4 + 1 + 1 + 1 + 1 by omega]
    rfl
theorem cellsI_drop : ∀ (ys : List LI) (k : Nat), (cellsI ys).drop (k * 4) = cellsI (ys.drop k)
  | [], k => by simp [cellsI]
  | y :: ys, 0 => by simp
  | y :: ys, k + 1 => by
    rw [List.drop_succ_cons, cellsI_cons, ← cellsI_drop ys k, show (k + 1) * 4 = k * 4 + 1 + 1 + 1 + 1 by omega]
    rfl
theorem reads_head {w : World} {B : Nat} {a : Option Addr} {ys : List LI} (h : Reads w B a (cellsI ys)) (k : Nat) : Reads w B a (cellsI (ys.take k)) := fun j hj => by
  have hk : cellsI (ys.take k) = (cellsI ys).take (k * 4) := (cellsI_take ys k).symm
  have h2 : (cellsI (ys.take k))[j] = ((cellsI ys).take (k * 4))[j]'(by rw [← hk]; exact hj) := by simp only [hk]
  have h3 : j < (cellsI ys).length := by rw [hk, List.length_take] at hj; omega
  obtain ⟨ad, e, hb, hc⟩ := h j h3
  exact ⟨ad, e, hb, by rw [hc, h2, List.getElem_take]⟩
theorem reads_tail {w : World} {B : Nat} {ad : Addr} {ys : List LI} (h : Reads w B (some ad) (cellsI ys)) (k : Nat) : Reads w B (some (ad.add (k * 4))) (cellsI (ys.drop k)) := fun j hj => by
  have hk : cellsI (ys.drop k) = (cellsI ys).drop (k * 4) := (cellsI_drop ys k).symm
  have h2 : (cellsI (ys.drop k))[j] = ((cellsI ys).drop (k * 4))[j]'(by rw [← hk]; exact hj) := by simp only [hk]
  have h3 : k * 4 + j < (cellsI ys).length := by rw [hk, List.length_drop] at hj; omega
  obtain ⟨ad', e, hb, hc⟩ := h (k * 4 + j) h3
  injection e with e
  subst e
  exact ⟨ad.add (k * 4), rfl, by rw [add_block]; exact hb, by rw [add_add, hc, h2, List.getElem_drop]⟩
theorem reads_rest2 {w : World} {B g : Nat} {ys : List LI} (h : Reads w B (some ⟨g, 0, none⟩) (cellsI ys)) (k : Nat) : Reads w B (some ⟨g, k * 4, none⟩) (cellsI (ys.drop k)) := by
  have := reads_tail h k
  rwa [Addr.add_lit, Nat.zero_add] at this
theorem conI_ins (ys : List LI) (k : Nat) (z : LI) : conI (ys.take k ++ z :: ys.drop k) = (conI ys).take k ++ z.con :: (conI ys).drop k := by
  unfold conI
  rw [List.map_append, List.map_cons, List.map_take, List.map_drop]
end Go.Proofs.Ytmnedjhfibmcnaa.L6

/-
  The contracts of chapter 7's functions of the specification, II: IndexOn, UniqueFault. Conditions: keys' texts of at most 2^40 bytes, at most 2^20 fields and items. (Written by my program gen_l7b.py.)
-/
namespace Go.Proofs.Ytmnedjhfibmcnaa.L7
set_option maxRecDepth 100000
open L4 (K isK cmpK R inR encU)
open L5 (F isR isN cellsF encR eqR Small getO getN getB)
open L6
open Go.ChangeShapes Go.WideShapes Go.ChangeAt Go.RowKit Mem Sl Ex L2 Sv Bag
set_option linter.unusedVariables false
set_option linter.unusedSimpArgs false

theorem fit_idx {xs : List It} {t : List UInt8} (h : ∀ x ∈ xs, FitI x) : ∀ x ∈ idxI xs t, FitI x := fun x hx => h x (idxI_mem x hx).1
theorem idx_take {xs : List It} {t : List UInt8} {k : Nat} (h : ∀ x ∈ xs, FitI x) : ∀ x ∈ idxI (xs.take k) t, FitI x := fun x hx => h x (List.mem_of_mem_take (idxI_mem x hx).1)

set_option maxHeartbeats 8000000 in
theorem specIndexOn_any (y : LS) (f : ByteArray) (hf : FitS y.con) (w : World) (hr : RowsRd w w.heap.size y.rows) :
    Calls Try.prog 47 #[y.v, .string f] w (GaveIs w (idxI y.con.items f.data.toList)) := by
  obtain ⟨i0, hi1, hi2, hi3, hi4⟩ := itemInfo
  have HI := Lib.hid (And.intro hi1 (And.intro hi2 (And.intro hi3 hi4)))
  clear hi1 hi2 hi3 hi4
  obtain ⟨name, a, c, xs, auto⟩ := y
  have HR := Lib.hid (fun w' (h : Below w.heap.size w w') => LS.outer (hr.below h))
  have HX := Lib.hid (fun w' (h : Below w.heap.size w w') => (LS.inner (hr.below h)).more h.size)
  have HF := Lib.hid hf.items
  have HNM := Lib.hid hf.name
  have hl := hf.len
  simp only [LS.con, conI_length] at hl
  dsimp only [LS.con] at HR HX HF HNM
  try unfold LS.v LS.cells LS.con
  try dsimp only
  obtain ⟨N, hN⟩ : ∃ n, n = xs.length := ⟨_, rfl⟩
  rw [← hN] at hl ⊢
  have hl' : (N : Int) ≤ 1048576 := by omega
  have HN := Lib.hid hN
  clear hN hr hf
  have S1 := Lib.hid (show Sl.Sep w (w.alloc (.cells #[.string name, .slice a N c, .int .i64 auto] 26)) [L4.boxR w.heap.size 26 #[.string name, .slice a N c, .int .i64 auto]] from L4.push_box (Sl.Sep.start w) 26 #[.string name, .slice a N c, .int .i64 auto] (w.heap.size) (by simp))
  obtain ⟨wa, hwa⟩ : ∃ u, u = (w.alloc (.cells #[.string name, .slice a N c, .int .i64 auto] 26)) := ⟨_, rfl⟩
  rw [← hwa] at S1
  go_enter Try.func47, Try.ntmps47
  go_upto_region 1 with fail
  rw [← hwa]
  clear hwa
  go_upto_region 2 with fail
  have S2 := Lib.hid (show Sl.Sep w _ [L4.boxR w.heap.size 26 #[.string name, .slice a N c, .int .i64 auto], Sv.ownV 43 4 (some ⟨wa.heap.size, 0, none⟩) 0 0 (cellsI [])] from Sv.push_own S1.out ((Below.refl _ _).alloc (Nat.le_refl _) _) (OwnV.madeAt wa 43 4 0 wa.heap.size #[] rfl (Nat.le_refl _) rfl (by decide)))
  clear S1
  obtain ⟨g1, hg⟩ : ∃ g', g' = wa.heap.size := ⟨_, rfl⟩
  rw [← hg] at S2 ⊢
  clear hg
  generalize wa.alloc (.cells #[] 43) = w1 at S2 ⊢
  have S3 := Lib.hid (show Sl.Sep w _ [L4.boxR w.heap.size 26 #[.string name, .slice a N c, .int .i64 auto], Sv.ownV 43 4 (some ⟨g1, 0, none⟩) 0 0 (cellsI []), Bag.bag (rowsI [])] from Bag.push_bag S2.out (Below.refl _ _) (Bag.BagOwn.nil _ _))
  clear S2
  go_wp2_with fail
  go_loopw [5, 6] (fun v i wr => ∃ (k m : Nat) (A : Option Addr) (C : Nat) (ys : List LI), k ≤ N ∧ i = .int .i64 k ∧ v = .slice A m C ∧ m ≤ k ∧ Hid ((m = ys.length ∧ conI ys = idxI ((conI xs).take k) f.data.toList) ∧ Sl.Sep w wr [L4.boxR w.heap.size 26 #[.string name, .slice a N c, .int .i64 auto], Sv.ownV 43 4 A C m (cellsI ys), Bag.bag (rowsI ys)])) (fun _ i _ => N - (intOf i).toNat)
  case atStart => exact ⟨0, 0, _, _, [], Nat.zero_le _, rfl, rfl, Nat.le_refl _, And.intro ⟨rfl, rfl⟩ S3.out⟩
  case round =>
    obtain ⟨k, m, A, C, ys, hk, rfl, rfl, hmk, hrel⟩ := hrel
    have HC := Lib.hid hrel.out.1
    have S4 := Lib.hid hrel.out.2
    clear hrel S3
    by_cases hlt : (k : Int) < (N : Int)
    · skip
      have hkl : k < xs.length := by have := HN.out; omega
      obtain ⟨ad, x, rfl, hx⟩ := readsI_some (HR.out _ S4.out.old) k hkl
      obtain ⟨⟨kd, n, t⟩, ia, ic, l⟩ := x
      have HK := Lib.hid (fun w' (h : Below w.heap.size w w') => readsI_at (HR.out _ h) k _ hx)
      try dsimp only at HK
      have HFI := Lib.hid (fit_at HF.out hx)
      try dsimp only [LI.con] at HFI
      have HCI := Lib.hid (fun w' (h : Below w.heap.size w w') => l6Item_any kd n t ia ic l HFI.out.len w' (((HX.out _ h).at_ (rowsI_mem hx)).reads))
      try dsimp only at HCI
      have HGF := Lib.hid (fun w' (h : Below w.heap.size w w') => L5.specGetField_any ia ic l f (by have : l.length ≤ 1048576 := HFI.out.len; omega) w' (((HX.out _ h).at_ (rowsI_mem hx)).reads))
      obtain ⟨fn, hfn⟩ : ∃ u, getN l f.data.toList = u := ⟨_, rfl⟩
      obtain ⟨fb, hfb⟩ : ∃ u, getB l f.data.toList = u := ⟨_, rfl⟩
      rw [hfn, hfb] at HGF
      have HT := Lib.hid (idxI_take (t := f.data.toList) (show (conI xs)[k]? = some (⟨⟨kd, n, t⟩, l⟩ : It) from con_of hx))
      unfold stepX at HT
      dsimp only at HT
      rw [hfb] at HT
      have HXK := Lib.hid (fun w' (h : Below w.heap.size w w') => ((HX.out _ h).at_ (rowsI_mem hx)).reads)
      try dsimp only [LI.row] at HXK
      clear hx hfn hfb
      have hh := Bag.cs3 S4.out 0 rfl
      have f0 := hh.1; have f1 := hh.2.1; have f2 := hh.2.2; clear hh
      have hh := HK.out _ S4.out.old
      have f3 := hh.1; have f4 := hh.2.1; have f5 := hh.2.2.1; have f6 := hh.2.2.2; clear hh
      go_wp2_with fail
      go_at_call 26
      refine (HGF.out _ S4.out.old).mono ?_
      rintro e w2 ⟨rfl, hb⟩
      clear f0 f1 f2 f3 f4 f5 f6
      have S5 := Lib.hid (S4.out.keep hb)
      clear S4
      clear hb
      have hh := Bag.cs3 S5.out 0 rfl
      have f0 := hh.1; have f1 := hh.2.1; have f2 := hh.2.2; clear hh
      have hh := HK.out _ S5.out.old
      have f3 := hh.1; have f4 := hh.2.1; have f5 := hh.2.2.1; have f6 := hh.2.2.2; clear hh
      cases fb with
      | false =>
        go_wp2_with fail
        go_roundw
        case rel => exact ⟨k + 1, m, A, C, ys, by omega, by go_num, rfl, by omega, And.intro ⟨HC.out.1, by rw [HT.out, HC.out.2]; simp⟩ S5.out⟩
        case measure => simp [intOf]; omega
      | true =>
        rw [if_pos rfl] at HT
        go_upto_block 2 with fail
        go_cut [9] (fun v wx => ∃ j : Nat, j ≤ m ∧ v = .int .i64 j ∧ Hid (backP f.data.toList ⟨⟨kd, n, t⟩, l⟩ (conI ys) m = j ∧ Sl.Sep w wx [L4.boxR w.heap.size 26 #[.string name, .slice (some ad) N c, .int .i64 auto], Sv.ownV 43 4 A C m (cellsI ys), Bag.bag (rowsI ys)]))
        case first =>
          go_wp2_with fail
          go_loopw [9] (fun v wr2 => ∃ j : Nat, j ≤ m ∧ v = .int .i64 j ∧ Hid (backP f.data.toList ⟨⟨kd, n, t⟩, l⟩ (conI ys) m = backP f.data.toList ⟨⟨kd, n, t⟩, l⟩ (conI ys) j ∧ Sl.Sep w wr2 [L4.boxR w.heap.size 26 #[.string name, .slice (some ad) N c, .int .i64 auto], Sv.ownV 43 4 A C m (cellsI ys), Bag.bag (rowsI ys)])) (fun v _ => (intOf v).toNat)
          case atStart => exact ⟨m, Nat.le_refl _, rfl, And.intro rfl S5.out⟩
          case round =>
            clear f0 f1 f2 f3 f4 f5 f6
            obtain ⟨j, hjm, rfl, hrel⟩ := hrel
            have HBP := Lib.hid hrel.out.1
            have S6 := Lib.hid hrel.out.2
            clear hrel S5
            by_cases hj0 : j = 0
            · subst hj0
              have hh := Bag.cs3 S6.out 0 rfl
              have f0 := hh.1; have f1 := hh.2.1; have f2 := hh.2.2; clear hh
              have hh := HK.out _ S6.out.old
              have f3 := hh.1; have f4 := hh.2.1; have f5 := hh.2.2.1; have f6 := hh.2.2.2; clear hh
              go_upto_region 8 with fail
              clear f0 f1 f2 f3 f4 f5 f6
              refine wp_region_held_drew (S := (fun w' => (World.cell? w' ⟨w.heap.size, 0, none⟩ = some (.string name) ∧ World.cell? w' ⟨w.heap.size, 1, none⟩ = some (.slice (some ad) N c) ∧ World.cell? w' ⟨w.heap.size, 2, none⟩ = some (.int .i64 auto)) ∧ (World.cell? w' (ad.add (k * 4)) = some (.int .i64 kd) ∧ World.cell? w' (⟨(ad.add (k * 4)).block, (ad.add (k * 4)).off + 1, none⟩) = some (.int .i64 n) ∧ World.cell? w' (⟨(ad.add (k * 4)).block, (ad.add (k * 4)).off + 2, none⟩) = some (.string t) ∧ World.cell? w' (⟨(ad.add (k * 4)).block, (ad.add (k * 4)).off + 3, none⟩) = some (.slice ia l.length ic)))) (by kernel_rfl) ⟨Bag.cs3 (Bag.drew1 S6.out) 0 rfl, HK.out _ (Bag.drew1 S6.out).old⟩ (fun hS => ?_)
              have S7 := Lib.hid (show Sl.Sep w _ [L4.boxR w.heap.size 26 #[.string name, .slice (some ad) N c, .int .i64 auto], Sv.ownV 43 4 A C m (cellsI ys), Bag.bag (rowsI ys)] from Bag.drew1 S6.out)
              clear S6
              generalize World.drew _ = w3 at hS S7 ⊢
              refine tk 0 rfl ?_
              try simp only [zp0, zp1, zp2, zp3, zp4]
              refine tk 1 rfl ?_
              try simp only [zp0, zp1, zp2, zp3, zp4]
              refine tk 2 rfl ?_
              try simp only [zp0, zp1, zp2, zp3, zp4]
              refine sk 3 rfl ?_
              try simp only [zp0, zp1, zp2, zp3, zp4]
              refine sk 4 rfl ?_
              try simp only [zp0, zp1, zp2, zp3, zp4]
              refine sk 5 rfl ?_
              try simp only [zp0, zp1, zp2, zp3, zp4]
              refine sk 6 rfl ?_
              try simp only [zp0, zp1, zp2, zp3, zp4]
              refine sk 7 rfl ?_
              try simp only [zp0, zp1, zp2, zp3, zp4]
              refine sk 8 rfl ?_
              try simp only [zp0, zp1, zp2, zp3, zp4]
              refine sk 9 rfl ?_
              try simp only [zp0, zp1, zp2, zp3, zp4]
              refine sk 10 rfl ?_
              try simp only [zp0, zp1, zp2, zp3, zp4]
              refine sk 11 rfl ?_
              try simp only [zp0, zp1, zp2, zp3, zp4]
              refine sk 12 rfl ?_
              try simp only [zp0, zp1, zp2, zp3, zp4]
              refine sk 13 rfl ?_
              try simp only [zp0, zp1, zp2, zp3, zp4]
              refine Reg.skip_one (i := 14) rfl (by kernel_rfl) (by rfl) (by assumption) ?_
              try simp only [zp0, zp1, zp2, zp3, zp4]
              refine tk 15 rfl ?_
              try simp only [zp0, zp1, zp2, zp3, zp4]
              refine wpAnyH_done (by kernel_rfl) ?_ _
              have hh := Bag.cs3 S7.out 0 rfl
              have f0 := hh.1; have f1 := hh.2.1; have f2 := hh.2.2; clear hh
              have hh := HK.out _ S7.out.old
              have f3 := hh.1; have f4 := hh.2.1; have f5 := hh.2.2.1; have f6 := hh.2.2.2; clear hh
              go_wp2_with fail
              go_meet
              case rel => exact ⟨0, by omega, rfl, And.intro (by rw [HBP.out]; rfl) S7.out⟩
            · skip
              obtain ⟨i, rfl⟩ : ∃ i, j = i + 1 := ⟨j - 1, by omega⟩
              have hiy : i < ys.length := by have := HC.out.1; omega
              obtain ⟨ad2, x2, e2, hx2⟩ := readsI_some ((Sv.own_at S6.out 1 rfl).reads) i hiy
              subst e2
              obtain ⟨⟨kd2, n2, t2⟩, ia2, ic2, l2⟩ := x2
              have HFI2 := Lib.hid (show FitI ⟨⟨kd2, n2, t2⟩, l2⟩ from idx_take HF.out _ (by rw [← HC.out.2]; exact List.mem_of_getElem? (con_of hx2)))
              have HY2 := Lib.hid (show (conI ys)[i]? = some (⟨⟨kd2, n2, t2⟩, l2⟩ : It) from con_of hx2)
              have HX2 := Lib.hid hx2
              have hsub : ((i + 1 : Nat) : Int) - 1 = (i : Int) := by omega
              have hi0 : 0 < ((i + 1 : Nat) : Int) := by omega
              have him : (i : Int) < (m : Int) := by omega
              have hwr : IntKind.i64.wrap (i : Int) = (i : Int) := IntWalk.i64_in _ ⟨by omega, by have := HC.out.1; omega⟩
              obtain ⟨bl, hbl⟩ : ∃ b, less7 f.data.toList ⟨⟨kd, n, t⟩, l⟩ ⟨⟨kd2, n2, t2⟩, l2⟩ = b := ⟨_, rfl⟩
              have hh := Bag.cs3 S6.out 0 rfl
              have f0 := hh.1; have f1 := hh.2.1; have f2 := hh.2.2; clear hh
              have hh := HK.out _ S6.out.old
              have f3 := hh.1; have f4 := hh.2.1; have f5 := hh.2.2.1; have f6 := hh.2.2.2; clear hh
              have f7 : World.cell? _ (ad2.add (i * 4)) = some (.int .i64 kd2) := (readsI_at (Sv.own_at S6.out 1 rfl).reads i _ HX2.out).1
              have f8 : World.cell? _ (⟨(ad2.add (i * 4)).block, (ad2.add (i * 4)).off + 1, none⟩) = some (.int .i64 n2) := (readsI_at (Sv.own_at S6.out 1 rfl).reads i _ HX2.out).2.1
              have f9 : World.cell? _ (⟨(ad2.add (i * 4)).block, (ad2.add (i * 4)).off + 2, none⟩) = some (.string t2) := (readsI_at (Sv.own_at S6.out 1 rfl).reads i _ HX2.out).2.2.1
              have f10 : World.cell? _ (⟨(ad2.add (i * 4)).block, (ad2.add (i * 4)).off + 3, none⟩) = some (.slice ia2 l2.length ic2) := (readsI_at (Sv.own_at S6.out 1 rfl).reads i _ HX2.out).2.2.2
              go_upto_region 8 with fail
              clear f0 f1 f2 f3 f4 f5 f6 f7 f8 f9 f10
              refine wp_region_held_drew (S := (fun w' => (World.cell? w' ⟨w.heap.size, 0, none⟩ = some (.string name) ∧ World.cell? w' ⟨w.heap.size, 1, none⟩ = some (.slice (some ad) N c) ∧ World.cell? w' ⟨w.heap.size, 2, none⟩ = some (.int .i64 auto)) ∧ (World.cell? w' (ad.add (k * 4)) = some (.int .i64 kd) ∧ World.cell? w' (⟨(ad.add (k * 4)).block, (ad.add (k * 4)).off + 1, none⟩) = some (.int .i64 n) ∧ World.cell? w' (⟨(ad.add (k * 4)).block, (ad.add (k * 4)).off + 2, none⟩) = some (.string t) ∧ World.cell? w' (⟨(ad.add (k * 4)).block, (ad.add (k * 4)).off + 3, none⟩) = some (.slice ia l.length ic)) ∧ World.cell? w' (ad2.add (i * 4)) = some (.int .i64 kd2) ∧ World.cell? w' (⟨(ad2.add (i * 4)).block, (ad2.add (i * 4)).off + 1, none⟩) = some (.int .i64 n2) ∧ World.cell? w' (⟨(ad2.add (i * 4)).block, (ad2.add (i * 4)).off + 2, none⟩) = some (.string t2) ∧ World.cell? w' (⟨(ad2.add (i * 4)).block, (ad2.add (i * 4)).off + 3, none⟩) = some (.slice ia2 l2.length ic2))) (by kernel_rfl) ⟨Bag.cs3 (Bag.drew1 S6.out) 0 rfl, HK.out _ (Bag.drew1 S6.out).old, (readsI_at (Sv.own_at (Bag.drew1 S6.out) 1 rfl).reads i _ HX2.out).1, (readsI_at (Sv.own_at (Bag.drew1 S6.out) 1 rfl).reads i _ HX2.out).2.1, (readsI_at (Sv.own_at (Bag.drew1 S6.out) 1 rfl).reads i _ HX2.out).2.2.1, (readsI_at (Sv.own_at (Bag.drew1 S6.out) 1 rfl).reads i _ HX2.out).2.2.2⟩ (fun hS => ?_)
              have S7 := Lib.hid (show Sl.Sep w _ [L4.boxR w.heap.size 26 #[.string name, .slice (some ad) N c, .int .i64 auto], Sv.ownV 43 4 (some ad2) C m (cellsI ys), Bag.bag (rowsI ys)] from Bag.drew1 S6.out)
              clear S6
              generalize World.drew _ = w3 at hS S7 ⊢
              refine tk 0 rfl ?_
              try simp only [zp0, zp1, zp2, zp3, zp4]
              refine tk 1 rfl ?_
              try simp only [zp0, zp1, zp2, zp3, zp4]
              refine tk 2 rfl ?_
              try simp only [zp0, zp1, zp2, zp3, zp4]
              refine tk 3 rfl ?_
              try simp only [zp0, zp1, zp2, zp3, zp4]
              refine tk 4 rfl ?_
              try simp only [zp0, zp1, zp2, zp3, zp4]
              refine tk 5 rfl ?_
              try simp only [zp0, zp1, zp2, zp3, zp4]
              refine tk 6 rfl ?_
              try simp only [zp0, zp1, zp2, zp3, zp4]
              refine tk 7 rfl ?_
              try simp only [zp0, zp1, zp2, zp3, zp4]
              refine tk 8 rfl ?_
              try simp only [zp0, zp1, zp2, zp3, zp4]
              refine tk 9 rfl ?_
              try simp only [zp0, zp1, zp2, zp3, zp4]
              refine tk 10 rfl ?_
              try simp only [zp0, zp1, zp2, zp3, zp4]
              refine tk 11 rfl ?_
              try simp only [zp0, zp1, zp2, zp3, zp4]
              refine tk 12 rfl ?_
              try simp only [zp0, zp1, zp2, zp3, zp4]
              refine tk 13 rfl ?_
              try simp only [zp0, zp1, zp2, zp3, zp4]
              refine Reg.one_op (i := 14) rfl (by kernel_rfl) (fun K hK => ?_)
              have HLS := l7Less_any kd n kd2 n2 t t2 ia ia2 ic ic2 l l2 f HFI.out.text HFI2.out.text HFI.out.len HFI2.out.len _ (HXK.out _ S7.out.old) (((Bag.bag_rd S7.out 2 rfl).at_ (rowsI_mem HX2.out)).reads)
              rw [hbl] at HLS
              go_simp
              go_at_call 102
              refine HLS.mono ?_
              clear HLS
              rintro e w4 ⟨rfl, hb⟩
              have S8 := Lib.hid (S7.out.keep hb)
              clear S7
              clear hb
              go_wp2_with fail
              refine hK.out _ _ ⟨Bag.cs3 S8.out 0 rfl, HK.out _ S8.out.old, (readsI_at (Sv.own_at S8.out 1 rfl).reads i _ HX2.out).1, (readsI_at (Sv.own_at S8.out 1 rfl).reads i _ HX2.out).2.1, (readsI_at (Sv.own_at S8.out 1 rfl).reads i _ HX2.out).2.2.1, (readsI_at (Sv.own_at S8.out 1 rfl).reads i _ HX2.out).2.2.2⟩ (fun hS => ?_)
              clear hK K
              try simp only [zp0, zp1, zp2, zp3, zp4]
              refine tk 15 rfl ?_
              try simp only [zp0, zp1, zp2, zp3, zp4]
              refine wpAnyH_done (by kernel_rfl) ?_ _
              have hh := Bag.cs3 S8.out 0 rfl
              have f0 := hh.1; have f1 := hh.2.1; have f2 := hh.2.2; clear hh
              have hh := HK.out _ S8.out.old
              have f3 := hh.1; have f4 := hh.2.1; have f5 := hh.2.2.1; have f6 := hh.2.2.2; clear hh
              have f7 : World.cell? _ (ad2.add (i * 4)) = some (.int .i64 kd2) := (readsI_at (Sv.own_at S8.out 1 rfl).reads i _ HX2.out).1
              have f8 : World.cell? _ (⟨(ad2.add (i * 4)).block, (ad2.add (i * 4)).off + 1, none⟩) = some (.int .i64 n2) := (readsI_at (Sv.own_at S8.out 1 rfl).reads i _ HX2.out).2.1
              have f9 : World.cell? _ (⟨(ad2.add (i * 4)).block, (ad2.add (i * 4)).off + 2, none⟩) = some (.string t2) := (readsI_at (Sv.own_at S8.out 1 rfl).reads i _ HX2.out).2.2.1
              have f10 : World.cell? _ (⟨(ad2.add (i * 4)).block, (ad2.add (i * 4)).off + 3, none⟩) = some (.slice ia2 l2.length ic2) := (readsI_at (Sv.own_at S8.out 1 rfl).reads i _ HX2.out).2.2.2
              cases bl with
              | true =>
                go_wp2_with fail
                go_roundw
                case rel => exact ⟨i, by omega, by go_num, And.intro (by rw [HBP.out, backP_go HY2.out hbl]) S8.out⟩
                case measure => simp [intOf]
              | false =>
                go_wp2_with fail
                go_meet
                case rel => exact ⟨i + 1, by omega, rfl, And.intro (by rw [HBP.out]; exact backP_stop HY2.out hbl) S8.out⟩
        case rest =>
          obtain ⟨j, hjm, rfl, hq⟩ := hcut
          obtain ⟨ww, hww, hS⟩ : ∃ u, u = _ ∧ Sl.Sep w u [L4.boxR w.heap.size 26 #[.string name, .slice (some ad) N c, .int .i64 auto], Sv.ownV 43 4 A C m (cellsI ys), Bag.bag (rowsI ys)] := ⟨_, rfl, hq.out.2⟩
          subst hww
          have HBP := Lib.hid hq.out.1
          have S6 := Lib.hid hS
          clear hq hS S5
          have HML := Lib.hid HC.out.1
          have hjy : j ≤ ys.length := by have := HML.out; omega
          by_cases hjl : j = m
          · subst hjl
            have hcap : j ≤ C := by have := (Sv.own_at S6.out 1 rfl).cap; omega
            have hck : (j : Int) ≤ (C : Int) := by omega
            have S7 := Lib.hid (show Sl.Sep w _ [L4.boxR w.heap.size 26 #[.string name, .slice (some ad) N c, .int .i64 auto], Sv.ownV 43 4 A C j (cellsI ys), Bag.bag (rowsI ys), Sv.ownV 43 4 (some ⟨ww.heap.size, 0, none⟩) 0 0 (cellsI [])] from Sv.push_own S6.out ((Below.refl _ _).alloc (Nat.le_refl _) _) (OwnV.madeAt ww 43 4 0 ww.heap.size #[] rfl (Nat.le_refl _) rfl (by decide)))
            clear S6
            have hh := Bag.cs3 S7.out 0 rfl
            have f0 := hh.1; have f1 := hh.2.1; have f2 := hh.2.2; clear hh
            have hh := HK.out _ S7.out.old
            have f3 := hh.1; have f4 := hh.2.1; have f5 := hh.2.2.1; have f6 := hh.2.2.2; clear hh
            go_upto_region 11 with (at_builtin; refine L5.wpList_append_v S7.out 3 rfl rfl _ _ 24 (by rfl) i0 (.agg #[.int .i64 0, .int .i64 0, .string ⟨#[]⟩, .slice none 0 0]) 56 Try.underlying24 HI.out.1 HI.out.2.1 HI.out.2.2.1 HI.out.2.2.2 rfl (by omega) _ (by rfl) rfl _ _ j _ _ (cellsI (ys.take j)) (by rfl) rfl (reads_head (Sv.own_at S7.out 1 rfl).reads j) (by rw [cellsI_length, List.length_take, Nat.min_eq_left hjy]) (cellsI_one _) (by unfold maxLen; omega) (by omega) ?_; intro a2' c2' w3 hA)
            clear f0 f1 f2 f3 f4 f5 f6
            have S8 := Lib.hid (show Sl.Sep w w3 [L4.boxR w.heap.size 26 #[.string name, .slice (some ad) N c, .int .i64 auto], Sv.ownV 43 4 A C j (cellsI ys), Bag.bag (rowsI ys), Sv.ownV 43 4 a2' c2' j (cellsI (ys.take j))] from (by have h := hA; first | exact h | (rw [Nat.zero_add] at h; exact h)))
            clear S7
            clear hA
            have hh := Bag.cs3 S8.out 0 rfl
            have f0 := hh.1; have f1 := hh.2.1; have f2 := hh.2.2; clear hh
            have hh := HK.out _ S8.out.old
            have f3 := hh.1; have f4 := hh.2.1; have f5 := hh.2.2.1; have f6 := hh.2.2.2; clear hh
            go_wp2_with fail
            go_at_call 91
            refine (HCI.out _ S8.out.old).mono ?_
            rintro e w4 ⟨a1, c1, rfl, ho, hb⟩
            clear f0 f1 f2 f3 f4 f5 f6
            have S9 := Lib.hid (show Sl.Sep w _ [L4.boxR w.heap.size 26 #[.string name, .slice (some ad) N c, .int .i64 auto], Sv.ownV 43 4 A C j (cellsI ys), Bag.bag (rowsI ys), Sv.ownV 43 4 a2' c2' j (cellsI (ys.take j)), Bag.bag ([(LI.mk ⟨kd, n, t⟩ a1 c1 l).row])] from Bag.push_bag S8.out hb ho)
            clear S8
            clear hb ho
            have hh := Bag.cs3 S9.out 0 rfl
            have f0 := hh.1; have f1 := hh.2.1; have f2 := hh.2.2; clear hh
            have hh := HK.out _ S9.out.old
            have f3 := hh.1; have f4 := hh.2.1; have f5 := hh.2.2.1; have f6 := hh.2.2.2; clear hh
            have S10 := Lib.hid (show Sl.Sep w _ [L4.boxR w.heap.size 26 #[.string name, .slice (some ad) N c, .int .i64 auto], Sv.ownV 43 4 A C j (cellsI ys), Bag.bag (rowsI ys), Sv.ownV 43 4 a2' c2' j (cellsI (ys.take j)), Bag.bag ([(LI.mk ⟨kd, n, t⟩ a1 c1 l).row]), Sv.ownV 43 4 (some ⟨w4.heap.size, 0, none⟩) 1 1 (cellsI [⟨⟨kd, n, t⟩, a1, c1, l⟩])] from Sv.push_own S9.out ((Below.refl _ _).alloc (Nat.le_refl _) _) (OwnV.madeAt w4 43 4 1 w4.heap.size #[.int .i64 kd, .int .i64 n, .string t, .slice a1 l.length c1] rfl (Nat.le_refl _) rfl (by decide)))
            clear S9
            go_upto_region 12 with (at_builtin; refine L5.wpList_append_v S10.out 3 rfl rfl _ _ 24 (by rfl) i0 (.agg #[.int .i64 0, .int .i64 0, .string ⟨#[]⟩, .slice none 0 0]) 56 Try.underlying24 HI.out.1 HI.out.2.1 HI.out.2.2.1 HI.out.2.2.2 rfl (by omega) _ (by rfl) rfl _ _ 1 _ _ (cellsI [⟨⟨kd, n, t⟩, a1, c1, l⟩]) (by rfl) rfl (Sv.own_at S10.out 5 rfl).reads rfl (cellsI_one _) (by unfold maxLen; omega) (by omega) ?_; intro a3' c3' w5 hA)
            have S11 := Lib.hid (show Sl.Sep w _ [L4.boxR w.heap.size 26 #[.string name, .slice (some ad) N c, .int .i64 auto], Sv.ownV 43 4 A C j (cellsI ys), Bag.bag (rowsI ys), Sv.ownV 43 4 a3' c3' (j + 1) (cellsI (ys.take j) ++ (cellsI [⟨⟨kd, n, t⟩, a1, c1, l⟩])), Bag.bag ([(LI.mk ⟨kd, n, t⟩ a1 c1 l).row]), Sv.ownV 43 4 (some ⟨w4.heap.size, 0, none⟩) 1 1 (cellsI [⟨⟨kd, n, t⟩, a1, c1, l⟩])] from hA)
            clear S10
            clear hA
            clear f0 f1 f2 f3 f4 f5 f6
            have S12 := Lib.hid (show Sl.Sep w _ [L4.boxR w.heap.size 26 #[.string name, .slice (some ad) N c, .int .i64 auto], Sv.ownV 43 4 A C j (cellsI ys), Bag.bag (rowsI ys), Sv.ownV 43 4 a3' c3' (j + 1) (cellsI (ys.take j) ++ (cellsI [⟨⟨kd, n, t⟩, a1, c1, l⟩])), Bag.bag ([(LI.mk ⟨kd, n, t⟩ a1 c1 l).row])] from Bag.take S11.out [0, 1, 2, 3, 4] (by rfl) (by decide))
            clear S11
            go_wp2_with (at_builtin; refine L5.wpList_append_v S12.out 3 rfl rfl _ _ 24 (by rfl) i0 (.agg #[.int .i64 0, .int .i64 0, .string ⟨#[]⟩, .slice none 0 0]) 56 Try.underlying24 HI.out.1 HI.out.2.1 HI.out.2.2.1 HI.out.2.2.2 rfl (by omega) _ (by rfl) rfl _ _ 0 _ _ (cellsI []) (by rfl) rfl (Sl.Reads.nil (B := 0)) rfl (cellsI_one _) (by unfold maxLen; omega) (by omega) ?_; intro a4' c4' w6 hA)
            have S13 := Lib.hid (show Sl.Sep w _ [L4.boxR w.heap.size 26 #[.string name, .slice (some ad) N c, .int .i64 auto], Sv.ownV 43 4 A C j (cellsI ys), Bag.bag (rowsI ys), Sv.ownV 43 4 a4' c4' (j + 1 + 0) ((cellsI (ys.take j) ++ (cellsI [⟨⟨kd, n, t⟩, a1, c1, l⟩])) ++ cellsI []), Bag.bag ([(LI.mk ⟨kd, n, t⟩ a1 c1 l).row])] from hA)
            clear S12
            clear hA
            have S14 := Lib.hid (show Sl.Sep w _ [L4.boxR w.heap.size 26 #[.string name, .slice (some ad) N c, .int .i64 auto], Sv.ownV 43 4 a4' c4' (j + 1 + 0) ((cellsI (ys.take j) ++ (cellsI [⟨⟨kd, n, t⟩, a1, c1, l⟩])) ++ cellsI []), Bag.bag (rowsI ys), Bag.bag ([(LI.mk ⟨kd, n, t⟩ a1 c1 l).row])] from Bag.take S13.out [0, 3, 2, 4] (by rfl) (by decide))
            clear S13
            have S15 := Lib.hid (show Sl.Sep w _ [L4.boxR w.heap.size 26 #[.string name, .slice (some ad) N c, .int .i64 auto], Sv.ownV 43 4 a4' c4' (j + 1 + 0) ((cellsI (ys.take j) ++ (cellsI [⟨⟨kd, n, t⟩, a1, c1, l⟩])) ++ cellsI []), Bag.bag (rowsI ys ++ ([(LI.mk ⟨kd, n, t⟩ a1 c1 l).row])), Bag.bag ([])] from Bag.bag_join S14.out 2 3 (by decide) rfl rfl)
            clear S14
            have S16 := Lib.hid (show Sl.Sep w _ [L4.boxR w.heap.size 26 #[.string name, .slice (some ad) N c, .int .i64 auto], Sv.ownV 43 4 a4' c4' (j + 1 + 0) ((cellsI (ys.take j) ++ (cellsI [⟨⟨kd, n, t⟩, a1, c1, l⟩])) ++ cellsI []), Bag.bag (rowsI ys ++ ([(LI.mk ⟨kd, n, t⟩ a1 c1 l).row]))] from Bag.take S15.out [0, 1, 2] (by rfl) (by decide))
            clear S15
            have S17 := Lib.hid (show Sl.Sep w _ [L4.boxR w.heap.size 26 #[.string name, .slice (some ad) N c, .int .i64 auto], Sv.ownV 43 4 a4' c4' (j + 1 + 0) ((cellsI (ys.take j) ++ (cellsI [⟨⟨kd, n, t⟩, a1, c1, l⟩])) ++ cellsI []), Bag.bag (rowsI (ys.take j ++ ⟨⟨kd, n, t⟩, a1, c1, l⟩ :: ys.drop j))] from Bag.bag_perm S16.out 2 rfl (rowsI_ins ys j ⟨⟨kd, n, t⟩, a1, c1, l⟩))
            clear S16
            have hlz : (ys.take j ++ ⟨⟨kd, n, t⟩, a1, c1, l⟩ :: ys.drop j).length = j + 1 := by rw [List.length_append, List.length_cons, List.length_take, List.length_drop]; have := HML.out; omega
            have hcz : cellsI (ys.take j ++ ⟨⟨kd, n, t⟩, a1, c1, l⟩ :: ys.drop j) = (cellsI (ys.take j) ++ (cellsI [⟨⟨kd, n, t⟩, a1, c1, l⟩])) ++ cellsI [] := by rw [cellsI_append, cellsI_cons]; rw [List.drop_of_length_le (show ys.length ≤ j by have := HML.out; omega)]; simp [cellsI, LI.cells]
            have HCZ := Lib.hid hcz
            clear hcz
            have S18 := Lib.hid (show Sl.Sep w _ [L4.boxR w.heap.size 26 #[.string name, .slice (some ad) N c, .int .i64 auto], Sv.ownV 43 4 a4' c4' (j + 1 + 0) (cellsI (ys.take j ++ ⟨⟨kd, n, t⟩, a1, c1, l⟩ :: ys.drop j)), Bag.bag (rowsI (ys.take j ++ ⟨⟨kd, n, t⟩, a1, c1, l⟩ :: ys.drop j))] from (by rw [HCZ.out]; exact S17.out))
            clear S17
            have S19 := Lib.hid (show Sl.Sep w _ [L4.boxR w.heap.size 26 #[.string name, .slice (some ad) N c, .int .i64 auto], Sv.ownV 43 4 a4' c4' (j + 1) (cellsI (ys.take j ++ ⟨⟨kd, n, t⟩, a1, c1, l⟩ :: ys.drop j)), Bag.bag (rowsI (ys.take j ++ ⟨⟨kd, n, t⟩, a1, c1, l⟩ :: ys.drop j))] from S18.out)
            clear S18
            go_roundw
            case rel =>
              refine ⟨k + 1, j + 1, a4', c4', ys.take j ++ ⟨⟨kd, n, t⟩, a1, c1, l⟩ :: ys.drop j, by omega, by go_num, ?_, by omega, And.intro ⟨hlz.symm, ?_⟩ S19.out⟩
              · first | rfl | simp
              · rw [HT.out, conI_ins, HC.out.2]; unfold insX; rw [← HC.out.2, conI_length, ← HML.out, HBP.out]; rfl
            case measure => simp [intOf]; omega
          · skip
            obtain ⟨g9, rfl⟩ : ∃ g, A = some ⟨g, 0, none⟩ := by
              rcases (Sv.own_at S6.out 1 rfl).form with ⟨_, h0, _⟩ | ⟨g, e, _⟩
              · omega
              · exact ⟨g, e⟩
            have hcap : j ≤ C := by have := (Sv.own_at S6.out 1 rfl).cap; omega
            have hck : (j : Int) ≤ (C : Int) := by omega
            have S7 := Lib.hid (show Sl.Sep w _ [L4.boxR w.heap.size 26 #[.string name, .slice (some ad) N c, .int .i64 auto], Sv.ownV 43 4 (some ⟨g9, 0, none⟩) C m (cellsI ys), Bag.bag (rowsI ys), Sv.ownV 43 4 (some ⟨ww.heap.size, 0, none⟩) 0 0 (cellsI [])] from Sv.push_own S6.out ((Below.refl _ _).alloc (Nat.le_refl _) _) (OwnV.madeAt ww 43 4 0 ww.heap.size #[] rfl (Nat.le_refl _) rfl (by decide)))
            clear S6
            have hh := Bag.cs3 S7.out 0 rfl
            have f0 := hh.1; have f1 := hh.2.1; have f2 := hh.2.2; clear hh
            have hh := HK.out _ S7.out.old
            have f3 := hh.1; have f4 := hh.2.1; have f5 := hh.2.2.1; have f6 := hh.2.2.2; clear hh
            go_upto_region 11 with (at_builtin; refine L5.wpList_append_v S7.out 3 rfl rfl _ _ 24 (by rfl) i0 (.agg #[.int .i64 0, .int .i64 0, .string ⟨#[]⟩, .slice none 0 0]) 56 Try.underlying24 HI.out.1 HI.out.2.1 HI.out.2.2.1 HI.out.2.2.2 rfl (by omega) _ (by rfl) rfl _ _ j _ _ (cellsI (ys.take j)) (by rfl) rfl (reads_head (Sv.own_at S7.out 1 rfl).reads j) (by rw [cellsI_length, List.length_take, Nat.min_eq_left hjy]) (cellsI_one _) (by unfold maxLen; omega) (by omega) ?_; intro a2' c2' w3 hA)
            clear f0 f1 f2 f3 f4 f5 f6
            have S8 := Lib.hid (show Sl.Sep w w3 [L4.boxR w.heap.size 26 #[.string name, .slice (some ad) N c, .int .i64 auto], Sv.ownV 43 4 (some ⟨g9, 0, none⟩) C m (cellsI ys), Bag.bag (rowsI ys), Sv.ownV 43 4 a2' c2' j (cellsI (ys.take j))] from (by have h := hA; first | exact h | (rw [Nat.zero_add] at h; exact h)))
            clear S7
            clear hA
            have hh := Bag.cs3 S8.out 0 rfl
            have f0 := hh.1; have f1 := hh.2.1; have f2 := hh.2.2; clear hh
            have hh := HK.out _ S8.out.old
            have f3 := hh.1; have f4 := hh.2.1; have f5 := hh.2.2.1; have f6 := hh.2.2.2; clear hh
            go_wp2_with fail
            go_at_call 91
            refine (HCI.out _ S8.out.old).mono ?_
            rintro e w4 ⟨a1, c1, rfl, ho, hb⟩
            clear f0 f1 f2 f3 f4 f5 f6
            have S9 := Lib.hid (show Sl.Sep w _ [L4.boxR w.heap.size 26 #[.string name, .slice (some ad) N c, .int .i64 auto], Sv.ownV 43 4 (some ⟨g9, 0, none⟩) C m (cellsI ys), Bag.bag (rowsI ys), Sv.ownV 43 4 a2' c2' j (cellsI (ys.take j)), Bag.bag ([(LI.mk ⟨kd, n, t⟩ a1 c1 l).row])] from Bag.push_bag S8.out hb ho)
            clear S8
            clear hb ho
            have hh := Bag.cs3 S9.out 0 rfl
            have f0 := hh.1; have f1 := hh.2.1; have f2 := hh.2.2; clear hh
            have hh := HK.out _ S9.out.old
            have f3 := hh.1; have f4 := hh.2.1; have f5 := hh.2.2.1; have f6 := hh.2.2.2; clear hh
            have S10 := Lib.hid (show Sl.Sep w _ [L4.boxR w.heap.size 26 #[.string name, .slice (some ad) N c, .int .i64 auto], Sv.ownV 43 4 (some ⟨g9, 0, none⟩) C m (cellsI ys), Bag.bag (rowsI ys), Sv.ownV 43 4 a2' c2' j (cellsI (ys.take j)), Bag.bag ([(LI.mk ⟨kd, n, t⟩ a1 c1 l).row]), Sv.ownV 43 4 (some ⟨w4.heap.size, 0, none⟩) 1 1 (cellsI [⟨⟨kd, n, t⟩, a1, c1, l⟩])] from Sv.push_own S9.out ((Below.refl _ _).alloc (Nat.le_refl _) _) (OwnV.madeAt w4 43 4 1 w4.heap.size #[.int .i64 kd, .int .i64 n, .string t, .slice a1 l.length c1] rfl (Nat.le_refl _) rfl (by decide)))
            clear S9
            go_upto_region 12 with (at_builtin; refine L5.wpList_append_v S10.out 3 rfl rfl _ _ 24 (by rfl) i0 (.agg #[.int .i64 0, .int .i64 0, .string ⟨#[]⟩, .slice none 0 0]) 56 Try.underlying24 HI.out.1 HI.out.2.1 HI.out.2.2.1 HI.out.2.2.2 rfl (by omega) _ (by rfl) rfl _ _ 1 _ _ (cellsI [⟨⟨kd, n, t⟩, a1, c1, l⟩]) (by rfl) rfl (Sv.own_at S10.out 5 rfl).reads rfl (cellsI_one _) (by unfold maxLen; omega) (by omega) ?_; intro a3' c3' w5 hA)
            have S11 := Lib.hid (show Sl.Sep w _ [L4.boxR w.heap.size 26 #[.string name, .slice (some ad) N c, .int .i64 auto], Sv.ownV 43 4 (some ⟨g9, 0, none⟩) C m (cellsI ys), Bag.bag (rowsI ys), Sv.ownV 43 4 a3' c3' (j + 1) (cellsI (ys.take j) ++ (cellsI [⟨⟨kd, n, t⟩, a1, c1, l⟩])), Bag.bag ([(LI.mk ⟨kd, n, t⟩ a1 c1 l).row]), Sv.ownV 43 4 (some ⟨w4.heap.size, 0, none⟩) 1 1 (cellsI [⟨⟨kd, n, t⟩, a1, c1, l⟩])] from hA)
            clear S10
            clear hA
            clear f0 f1 f2 f3 f4 f5 f6
            have S12 := Lib.hid (show Sl.Sep w _ [L4.boxR w.heap.size 26 #[.string name, .slice (some ad) N c, .int .i64 auto], Sv.ownV 43 4 (some ⟨g9, 0, none⟩) C m (cellsI ys), Bag.bag (rowsI ys), Sv.ownV 43 4 a3' c3' (j + 1) (cellsI (ys.take j) ++ (cellsI [⟨⟨kd, n, t⟩, a1, c1, l⟩])), Bag.bag ([(LI.mk ⟨kd, n, t⟩ a1 c1 l).row])] from Bag.take S11.out [0, 1, 2, 3, 4] (by rfl) (by decide))
            clear S11
            have hcl := (Sv.own_at S12.out 1 rfl).cap
            have hkN : (j : Int) ≤ (m : Int) := by omega
            have hNc : (m : Int) ≤ (C : Int) := by omega
            go_wp2_with (at_builtin; refine L5.wpList_append_v S12.out 3 rfl rfl _ _ 24 (by rfl) i0 (.agg #[.int .i64 0, .int .i64 0, .string ⟨#[]⟩, .slice none 0 0]) 56 Try.underlying24 HI.out.1 HI.out.2.1 HI.out.2.2.1 HI.out.2.2.2 rfl (by omega) _ (by rfl) rfl _ _ (m - j) _ _ (cellsI (ys.drop j)) (by rfl) rfl (reads_rest2 (Sv.own_at S12.out 1 rfl).reads j) (by rw [cellsI_length, List.length_drop]; have := HML.out; omega) (cellsI_one _) (by unfold maxLen; omega) (by omega) ?_; intro a4' c4' w6 hA)
            have S13 := Lib.hid (show Sl.Sep w _ [L4.boxR w.heap.size 26 #[.string name, .slice (some ad) N c, .int .i64 auto], Sv.ownV 43 4 (some ⟨g9, 0, none⟩) C m (cellsI ys), Bag.bag (rowsI ys), Sv.ownV 43 4 a4' c4' (j + 1 + (m - j)) ((cellsI (ys.take j) ++ (cellsI [⟨⟨kd, n, t⟩, a1, c1, l⟩])) ++ cellsI (ys.drop j)), Bag.bag ([(LI.mk ⟨kd, n, t⟩ a1 c1 l).row])] from hA)
            clear S12
            clear hA
            have S14 := Lib.hid (show Sl.Sep w _ [L4.boxR w.heap.size 26 #[.string name, .slice (some ad) N c, .int .i64 auto], Sv.ownV 43 4 a4' c4' (j + 1 + (m - j)) ((cellsI (ys.take j) ++ (cellsI [⟨⟨kd, n, t⟩, a1, c1, l⟩])) ++ cellsI (ys.drop j)), Bag.bag (rowsI ys), Bag.bag ([(LI.mk ⟨kd, n, t⟩ a1 c1 l).row])] from Bag.take S13.out [0, 3, 2, 4] (by rfl) (by decide))
            clear S13
            have S15 := Lib.hid (show Sl.Sep w _ [L4.boxR w.heap.size 26 #[.string name, .slice (some ad) N c, .int .i64 auto], Sv.ownV 43 4 a4' c4' (j + 1 + (m - j)) ((cellsI (ys.take j) ++ (cellsI [⟨⟨kd, n, t⟩, a1, c1, l⟩])) ++ cellsI (ys.drop j)), Bag.bag (rowsI ys ++ ([(LI.mk ⟨kd, n, t⟩ a1 c1 l).row])), Bag.bag ([])] from Bag.bag_join S14.out 2 3 (by decide) rfl rfl)
            clear S14
            have S16 := Lib.hid (show Sl.Sep w _ [L4.boxR w.heap.size 26 #[.string name, .slice (some ad) N c, .int .i64 auto], Sv.ownV 43 4 a4' c4' (j + 1 + (m - j)) ((cellsI (ys.take j) ++ (cellsI [⟨⟨kd, n, t⟩, a1, c1, l⟩])) ++ cellsI (ys.drop j)), Bag.bag (rowsI ys ++ ([(LI.mk ⟨kd, n, t⟩ a1 c1 l).row]))] from Bag.take S15.out [0, 1, 2] (by rfl) (by decide))
            clear S15
            have S17 := Lib.hid (show Sl.Sep w _ [L4.boxR w.heap.size 26 #[.string name, .slice (some ad) N c, .int .i64 auto], Sv.ownV 43 4 a4' c4' (j + 1 + (m - j)) ((cellsI (ys.take j) ++ (cellsI [⟨⟨kd, n, t⟩, a1, c1, l⟩])) ++ cellsI (ys.drop j)), Bag.bag (rowsI (ys.take j ++ ⟨⟨kd, n, t⟩, a1, c1, l⟩ :: ys.drop j))] from Bag.bag_perm S16.out 2 rfl (rowsI_ins ys j ⟨⟨kd, n, t⟩, a1, c1, l⟩))
            clear S16
            have hlz : (ys.take j ++ ⟨⟨kd, n, t⟩, a1, c1, l⟩ :: ys.drop j).length = j + 1 + (m - j) := by rw [List.length_append, List.length_cons, List.length_take, List.length_drop]; have := HML.out; omega
            have hcz : cellsI (ys.take j ++ ⟨⟨kd, n, t⟩, a1, c1, l⟩ :: ys.drop j) = (cellsI (ys.take j) ++ (cellsI [⟨⟨kd, n, t⟩, a1, c1, l⟩])) ++ cellsI (ys.drop j) := by rw [cellsI_append, cellsI_cons]; simp [cellsI, LI.cells]
            have HCZ := Lib.hid hcz
            clear hcz
            have S18 := Lib.hid (show Sl.Sep w _ [L4.boxR w.heap.size 26 #[.string name, .slice (some ad) N c, .int .i64 auto], Sv.ownV 43 4 a4' c4' (j + 1 + (m - j)) (cellsI (ys.take j ++ ⟨⟨kd, n, t⟩, a1, c1, l⟩ :: ys.drop j)), Bag.bag (rowsI (ys.take j ++ ⟨⟨kd, n, t⟩, a1, c1, l⟩ :: ys.drop j))] from (by rw [HCZ.out]; exact S17.out))
            clear S17
            go_roundw
            case rel =>
              refine ⟨k + 1, j + 1 + (m - j), a4', c4', ys.take j ++ ⟨⟨kd, n, t⟩, a1, c1, l⟩ :: ys.drop j, by omega, by go_num, ?_, by omega, And.intro ⟨hlz.symm, ?_⟩ S18.out⟩
              · first | rfl | simp
              · rw [HT.out, conI_ins, HC.out.2]; unfold insX; rw [← HC.out.2, conI_length, ← HML.out, HBP.out]; rfl
            case measure => simp [intOf]; omega
    · skip
      have hh := Bag.cs3 S4.out 0 rfl
      have f0 := hh.1; have f1 := hh.2.1; have f2 := hh.2.2; clear hh
      go_wp2_with fail
      go_ret
      obtain rfl : k = N := by omega
      obtain ⟨hm, hc⟩ := HC.out
      rw [List.take_of_length_le (show (conI xs).length ≤ k by have := HN.out; simp; omega)] at hc
      subst hm
      have S90 := Lib.hid (Bag.bag_of_one S4.out 1 (r := rowI A C ys) rfl)
      have S91 := Lib.hid (Bag.bag_join S90.out 1 2 (by decide) rfl rfl)
      exact ⟨A, C, ys, rfl, hc, Bag.bag_from S91.out 1 rfl, S91.out.old⟩
end Go.Proofs.Ytmnedjhfibmcnaa.L7

/-
  The contract of chapter 5's copyRecord of the program. Condition: at most 2^40 fields. (Written by my program gen_l5cp.py.)
-/
namespace Go.Proofs.Ytmnedjhfibmcnaa.L5
set_option maxRecDepth 100000
open L4 (boxR push_box box_at)
open Go.ChangeShapes Go.WideShapes Go.ChangeAt Go.RowKit Mem Sl Ex L2 Sv Bag Run
set_option linter.unusedVariables false
set_option linter.unusedSimpArgs false

set_option maxHeartbeats 1000000 in
theorem copyRecord_any (a : Option Addr) (c : Nat) (l : List F) (hl : l.length ≤ 1099511627776) (w : World) (hr : Reads w w.heap.size a (cellsF l)) :
    Calls Try.prog 130 #[.agg #[.slice a l.length c]] w fun e w' => ∃ a' c', e = .returned (.agg #[.slice a' l.length c']) ∧ OwnV w' w.heap.size 107 2 a' c' l.length (cellsF l) ∧ Below w.heap.size w w' := by
  obtain ⟨i0, hi, hz0, hz1, hz2⟩ := fieldInfo
  obtain ⟨n, hn⟩ : ∃ n, n = l.length := ⟨_, rfl⟩
  rw [← hn] at hl ⊢
  have HR := Lib.hid (fun w' (h : Below w.heap.size w w') => hr.below h)
  have HC := Lib.hid (show (cellsF l).length = Nat.min n n * 2 by rw [cellsF_length, hn, show Nat.min l.length l.length = l.length from Nat.min_self _])
  have HM := Lib.hid (show (madeCells (Value.agg #[.string ⟨#[]⟩, .int .i64 0]).cells (n * 2)).toList.length = (cellsF l).length by rw [cellsF_length, ← hn]; simp [madeCells])
  have HI := Lib.hid (And.intro hi (And.intro hz0 (And.intro hz1 hz2)))
  have hl' : (n : Int) ≤ 1099511627776 := by omega
  clear hn hr hi hz0 hz1 hz2
  have S1 := Lib.hid (show Sl.Sep w ((w.alloc (.cells #[.slice a n c] 41)).alloc (.cells #[.slice none 0 0] 41)) [L4.boxR w.heap.size 41 #[.slice a n c], L4.boxR (w.heap.size + 1) 41 #[.slice none 0 0]] from L4.push_box (L4.push_box (Sl.Sep.start w) 41 #[.slice a n c] (w.heap.size) (by simp)) 41 #[.slice none 0 0] (w.heap.size + 1) (by simp))
  obtain ⟨wa, hwa⟩ : ∃ u, u = ((w.alloc (.cells #[.slice a n c] 41)).alloc (.cells #[.slice none 0 0] 41)) := ⟨_, rfl⟩
  rw [← hwa] at S1
  go_enter Try.func130, Try.ntmps130
  go_upto_region 1 with fail
  rw [← hwa]
  clear hwa
  have f0 : World.cell? _ ⟨w.heap.size, 0, none⟩ = some (.slice a n c) := Bag.cell_at S1.out 0 rfl 0 rfl
  have f1 : World.cell? _ ⟨w.heap.size + 1, 0, none⟩ = some (.slice none 0 0) := Bag.cell_at S1.out 1 rfl 0 rfl
  go_upto_region 2 with (at_make; refine wpList_make_s S1.out rfl _ _ 39 rfl 107 i0 (.agg #[.string ⟨#[]⟩, .int .i64 0]) 2 Try.underlying39 HI.out.1 HI.out.2.1 HI.out.2.2.1 _ _ n rfl rfl (by rw [HI.out.2.2.2]; omega) (by unfold maxLen; omega) ?_; intro w1 S')
  clear f0 f1
  obtain ⟨g1, hg⟩ : ∃ g', g' = wa.heap.size := ⟨_, rfl⟩
  rw [← hg] at S' ⊢
  clear hg
  have S2 := Lib.hid (show Sl.Sep w _ [L4.boxR w.heap.size 41 #[.slice a n c], L4.boxR (w.heap.size + 1) 41 #[.slice none 0 0], Sv.ownV 107 2 (some ⟨g1, 0, none⟩) n n ((madeCells (Value.agg #[.string ⟨#[]⟩, .int .i64 0]).cells (n * 2)).toList)] from S')
  clear S1
  clear S'
  have f0 : World.cell? _ ⟨w.heap.size, 0, none⟩ = some (.slice a n c) := Bag.cell_at S2.out 0 rfl 0 rfl
  have f1 : World.cell? _ ⟨w.heap.size + 1, 0, none⟩ = some (.slice none 0 0) := Bag.cell_at S2.out 1 rfl 0 rfl
  have hcp := fun ty => run_copy_s (P := Try.prog) S2.out 2 rfl 39 39 ty i0 Try.underlying39 HI.out.1 HI.out.2.2.1 0 n n n c a (cellsF l) HC.out w.heap.size (HR.out _ S2.out.old) (by rw [HM.out]; omega) (cellsF_one l)
  obtain ⟨w2, hw⟩ : ∃ u, u = World.setCells w1 g1 0 (cellsF l) := ⟨_, rfl⟩
  rw [← hw] at hcp
  have HW := Lib.hid hw
  clear hw
  go_upto_region 3 with fail
  clear f0 f1
  have S3 := Lib.hid (show Sl.Sep w _ [L4.boxR w.heap.size 41 #[.slice a n c], L4.boxR (w.heap.size + 1) 41 #[.slice none 0 0], Sv.ownV 107 2 (some ⟨g1, 0, none⟩) n n (cellsF l)] from (by have h := Run.put_run S2.out 2 rfl 0 (cellsF l) (by rw [HM.out]; omega); rw [← HW.out, over_all _ _ HM.out] at h; exact h))
  clear S2
  clear hcp HW
  have f0 : World.cell? _ ⟨w.heap.size, 0, none⟩ = some (.slice a n c) := Bag.cell_at S3.out 0 rfl 0 rfl
  have f1 : World.cell? _ ⟨w.heap.size + 1, 0, none⟩ = some (.slice none 0 0) := Bag.cell_at S3.out 1 rfl 0 rfl
  have z0 := Bag.free_at S3.out 1 rfl 0
  go_wp2_with fail
  clear f0 f1 z0
  have S4 := Lib.hid (show Sl.Sep w _ [L4.boxR w.heap.size 41 #[.slice a n c], L4.boxR (w.heap.size + 1) 41 #[.slice (some ⟨g1, 0, none⟩) n n], Sv.ownV 107 2 (some ⟨g1, 0, none⟩) n n (cellsF l)] from L5.put_box5 (S3.out) 1 rfl 0 (.slice (some ⟨g1, 0, none⟩) n n))
  clear S3
  have f0 : World.cell? _ ⟨w.heap.size + 1, 0, none⟩ = some (.slice (some ⟨g1, 0, none⟩) n n) := Bag.cell_at S4.out 1 rfl 0 rfl
  refine bodyPost_ret (v := .agg #[.slice (some ⟨g1, 0, none⟩) n n]) (by simp [results, Try.results130, go_sem, *]) rfl ?_
  exact ⟨_, _, rfl, Sv.own_from S4.out 2 rfl, S4.out.old⟩
end Go.Proofs.Ytmnedjhfibmcnaa.L5

/-
  The contracts of chapter 6's functions of the program: copyItem, copyStore. Conditions: keys' texts of at most 2^40 bytes, at most 2^20 fields and items. (Written by my program gen_l6g.py.)
-/
namespace Go.Proofs.Ytmnedjhfibmcnaa.L6
set_option maxRecDepth 100000
open L4 (K isK cmpK R inR encU)
open L5 (F isR isN cellsF encR eqR Small)
open Go.ChangeShapes Go.WideShapes Go.ChangeAt Go.RowKit Mem Sl Ex L2 Sv Bag
set_option linter.unusedVariables false
set_option linter.unusedSimpArgs false

set_option maxHeartbeats 2000000 in
theorem copyItem_any (kd n : Int) (s : ByteArray) (a : Option Addr) (c : Nat) (l : List F) (hl : l.length ≤ 1048576) (w : World) (hr : Reads w w.heap.size a (cellsF l)) :
    Calls Try.prog 94 #[.agg #[.int .i64 kd, .int .i64 n, .string s, .slice a l.length c]] w (GaveI w ⟨⟨kd, n, s⟩, l⟩) := by
  have HC := Lib.hid (fun w' (h : Below w.heap.size w w') => L5.copyRecord_any a c l (by have := hl; omega) w' ((hr.below h).more h.size))
  obtain ⟨N, hN⟩ : ∃ n, n = l.length := ⟨_, rfl⟩
  rw [← hN] at HC ⊢
  have HN := Lib.hid hN
  clear hN hr hl
  have S1 := Lib.hid (show Sl.Sep w ((w.alloc (.cells #[.int .i64 kd, .int .i64 n, .string s, .slice a N c] 43)).alloc (.cells #[.int .i64 0, .int .i64 0, .string ⟨#[]⟩, .slice none 0 0] 43)) [L4.boxR w.heap.size 43 #[.int .i64 kd, .int .i64 n, .string s, .slice a N c], L4.boxR (w.heap.size + 1) 43 #[.int .i64 0, .int .i64 0, .string ⟨#[]⟩, .slice none 0 0]] from L4.push_box (L4.push_box (Sl.Sep.start w) 43 #[.int .i64 kd, .int .i64 n, .string s, .slice a N c] (w.heap.size) (by simp)) 43 #[.int .i64 0, .int .i64 0, .string ⟨#[]⟩, .slice none 0 0] (w.heap.size + 1) (by simp))
  obtain ⟨wa, hwa⟩ : ∃ u, u = ((w.alloc (.cells #[.int .i64 kd, .int .i64 n, .string s, .slice a N c] 43)).alloc (.cells #[.int .i64 0, .int .i64 0, .string ⟨#[]⟩, .slice none 0 0] 43)) := ⟨_, rfl⟩
  rw [← hwa] at S1
  go_enter Try.func94, Try.ntmps94
  go_upto_region 1 with fail
  rw [← hwa]
  clear hwa
  go_upto_region 1 with fail
  refine wp_region_held_drew (S := (fun w' => (World.cell? w' ⟨w.heap.size, 0, none⟩ = some (.int .i64 kd) ∧ World.cell? w' ⟨w.heap.size, 1, none⟩ = some (.int .i64 n) ∧ World.cell? w' ⟨w.heap.size, 2, none⟩ = some (.string s) ∧ World.cell? w' ⟨w.heap.size, 3, none⟩ = some (.slice a N c)))) (by kernel_rfl) (Bag.cs4 (Bag.drew1 S1.out) 0 rfl) (fun hS => ?_)
  have S2 := Lib.hid (show Sl.Sep w _ [L4.boxR w.heap.size 43 #[.int .i64 kd, .int .i64 n, .string s, .slice a N c], L4.boxR (w.heap.size + 1) 43 #[.int .i64 0, .int .i64 0, .string ⟨#[]⟩, .slice none 0 0]] from Bag.drew1 S1.out)
  clear S1
  generalize World.drew _ = w1 at hS S2 ⊢
  refine tk 0 rfl ?_
  try simp only [zp0, zp1, zp2, zp3, zp4]
  refine tk 1 rfl ?_
  try simp only [zp0, zp1, zp2, zp3, zp4]
  refine tk 2 rfl ?_
  try simp only [zp0, zp1, zp2, zp3, zp4]
  refine tk 3 rfl ?_
  try simp only [zp0, zp1, zp2, zp3, zp4]
  refine Reg.one_op (i := 4) rfl (by kernel_rfl) (fun K hK => ?_)
  go_simp
  go_at_call 130
  refine (HC.out _ S2.out.old).mono ?_
  rintro e w2 ⟨a1, c1, rfl, ho, hb⟩
  have S3 := Lib.hid (show Sl.Sep w _ [L4.boxR w.heap.size 43 #[.int .i64 kd, .int .i64 n, .string s, .slice a N c], L4.boxR (w.heap.size + 1) 43 #[.int .i64 0, .int .i64 0, .string ⟨#[]⟩, .slice none 0 0], Sv.ownV 107 2 a1 c1 N (cellsF l)] from Sv.push_own S2.out hb ho)
  clear S2
  clear hb ho
  go_wp2_with fail
  refine hK.out _ _ (Bag.cs4 S3.out 0 rfl) (fun hS => ?_)
  clear hK K
  try simp only [zp0, zp1, zp2, zp3, zp4]
  refine tk 5 rfl ?_
  try simp only [zp0, zp1, zp2, zp3, zp4]
  refine Reg.one_op (i := 6) rfl (by kernel_rfl) (fun K hK => ?_)
  have hh := Bag.cs4 S3.out 1 rfl
  have f0 := hh.1; have f1 := hh.2.1; have f2 := hh.2.2.1; have f3 := hh.2.2.2; clear hh
  have hh := Bag.fs4 S3.out 1 rfl
  have z0 := hh.1; have z1 := hh.2.1; have z2 := hh.2.2.1; have z3 := hh.2.2.2; clear hh
  go_simp
  clear f0 f1 f2 f3 z0 z1 z2 z3
  have S4 := Lib.hid (show Sl.Sep w _ [L4.boxR w.heap.size 43 #[.int .i64 kd, .int .i64 n, .string s, .slice a N c], L4.boxR (w.heap.size + 1) 43 #[.int .i64 kd, .int .i64 n, .string s, .slice a1 N c1], Sv.ownV 107 2 a1 c1 N (cellsF l)] from L5.put_box5 (L5.put_box5 (L5.put_box5 (L5.put_box5 (S3.out) 1 rfl 0 (.int .i64 kd)) 1 rfl 1 (.int .i64 n)) 1 rfl 2 (.string s)) 1 rfl 3 (.slice a1 N c1))
  clear S3
  refine hK.out _ _ (Bag.cs4 S4.out 0 rfl) (fun hS => ?_)
  clear hK K
  try simp only [zp0, zp1, zp2, zp3, zp4]
  refine wpAnyH_done (by kernel_rfl) ?_ _
  have hh := Bag.cs4 S4.out 0 rfl
  have f0 := hh.1; have f1 := hh.2.1; have f2 := hh.2.2.1; have f3 := hh.2.2.2; clear hh
  have hh := Bag.cs4 S4.out 1 rfl
  have f4 := hh.1; have f5 := hh.2.1; have f6 := hh.2.2.1; have f7 := hh.2.2.2; clear hh
  go_wp2_with fail
  refine bodyPost_ret (v := .agg #[.int .i64 kd, .int .i64 n, .string s, .slice a1 N c1]) (by simp [results, Try.results94, go_sem, *]) rfl ?_
  have hb := Bag.bag_from (Bag.bag_of_one S4.out 2 (r := (LI.mk ⟨kd, n, s⟩ a1 c1 l).row) (by show some _ = some _; rw [HN.out]; rfl)) 2 rfl
  exact ⟨a1, c1, by rw [HN.out], hb, S4.out.old⟩
end Go.Proofs.Ytmnedjhfibmcnaa.L6

/-
  The contracts of the library's comparisons and of CompareBytes of the program: cmp.Compare, strings.Compare, bytes.Compare, CompareBytes. No condition.
-/
namespace Go.Proofs.Ytmnedjhfibmcnaa.L4
set_option maxRecDepth 100000
open Go.Op (bytesLess)
open Go.ChangeShapes Go.WideShapes Go.ChangeAt Go.RowKit Mem Sl Ex L2
set_option linter.unusedVariables false

theorem cmpB_eq : ∀ (x y : List UInt8), Lib.compareBytes x y = cmpL x y
  | [], [] => by simp [Lib.compareBytes, cmpL, sgn, bytesLess]
  | [], _ :: _ => by simp [Lib.compareBytes, cmpL, sgn, bytesLess]
  | _ :: _, [] => by simp [Lib.compareBytes, cmpL, sgn, bytesLess]
  | a :: x, b :: y => by
    rw [cmpL_cons, ← cmpB_eq x y, show Lib.compareBytes (a :: x) (b :: y) = if a < b then -1 else if b < a then 1 else Lib.compareBytes x y by simp only [Lib.compareBytes]]
    by_cases e : a = b
    · subst e
      rw [if_pos rfl, if_neg (UInt8.lt_irrefl _), if_neg (UInt8.lt_irrefl _)]
    · rw [if_neg e]
      by_cases h : a < b
      · rw [if_pos h, cmpL_less (by simp [bytesLess, h])]
      · have h2 : b < a := UInt8.lt_of_le_of_ne (UInt8.not_lt.1 h) (Ne.symm e)
        rw [if_neg h, if_pos h2, cmpL_more (by simp [bytesLess, h2])]

theorem run_loadBytesL {P : Program} (w : World) : ∀ (l : List Int) (a : Addr) (acc : ByteArray), (∀ j (hj : j < l.length), w.cell? (a.add j) = some (.int .u8 l[j])) →
    (Extern.Bytes.loadBytes a l.length acc).run P w = .ok ⟨acc.data ++ (toU l).toArray⟩ w
  | [], a, acc, _ => by simp [Extern.Bytes.loadBytes, toU]
  | x :: l, a, acc, h => by
    have h0 : w.cell? a = some (.int .u8 x) := by
      have := h 0 (Nat.succ_pos _)
      simpa [Addr.add] using this
    have ih := run_loadBytesL (P := P) w l (a.add 1) (acc.push x.toNat.toUInt8) (fun j hj => by
      have := h (j + 1) (Nat.succ_lt_succ hj)
      have e : (a.add 1).add j = a.add (j + 1) := by
        unfold Addr.add
        by_cases hj : j = 0
        · subst hj; simp
        · simp [hj]; omega
      rw [e]; simpa using this)
    simp only [List.length_cons, Extern.Bytes.loadBytes, Sem.run_bind, run_load, h0, Result.andThen]
    rw [ih]
    congr 1
    apply ByteArray.ext
    simp [ByteArray.push, toU, UInt8.ofNat]
theorem run_bytesOf {P : Program} (w : World) (B : Nat) (a : Option Addr) (c : Nat) (l : List Int) (hr : Reads w B a (ints .u8 l)) :
    (Extern.Bytes.bytesOf (.slice a l.length c)).run P w = .ok ⟨(toU l).toArray⟩ w := by
  rcases a with _ | ad
  · have hl : l = [] := by
      rcases l with _ | ⟨x, l⟩
      · rfl
      · obtain ⟨ad, h, _⟩ := hr 0 (by simp [ints])
        cases h
    subst hl
    rfl
  · have := run_loadBytesL (P := P) w l ad .empty (fun j hj => by
      obtain ⟨ad', h, _, hc⟩ := hr j (by simpa using hj)
      injection h with h
      subst h
      rw [hc, ints_get .u8 l j hj])
    unfold Extern.Bytes.bytesOf
    rw [this]
    simp [ByteArray.empty, ByteArray.emptyWithCapacity]
    rfl
theorem run_compareBytes {P : Program} (w : World) (B : Nat) (a a2 : Option Addr) (c c2 : Nat) (l m : List Int) (hr : Reads w B a (ints .u8 l)) (hr2 : Reads w B a2 (ints .u8 m)) :
    (Extern.BytealgCompare.compare #[.slice a l.length c, .slice a2 m.length c2]).run P w = .ok (.int .i64 (cmpL (toU l) (toU m))) w := by
  change Sem.run P (do pure (goInt (Extern.BytealgCompare.cmp (← Extern.Bytes.bytesOf (.slice a l.length c)) (← Extern.Bytes.bytesOf (.slice a2 m.length c2))))) w = _
  simp only [Sem.run_bind, run_bytesOf w B a c l hr, run_bytesOf w B a2 c2 m hr2, Sem.run_pure, Result.andThen]
  rw [Lib.cmp_eq, cmpB_eq]
  rfl

theorem bytesCompare_any (a a2 : Option Addr) (c c2 : Nat) (l m : List Int) (w : World) (B : Nat) (hr : Reads w B a (ints .u8 l)) (hr2 : Reads w B a2 (ints .u8 m)) :
    Calls Try.prog 147 #[.slice a l.length c, .slice a2 m.length c2] w fun e w' => e = .returned (.int .i64 (cmpL (toU l) (toU m))) ∧ w = w' := by
  have K := run_compareBytes (P := Try.prog) w B a a2 c c2 l m hr hr2
  obtain ⟨n1, hn1⟩ : ∃ n, n = l.length := ⟨_, rfl⟩
  obtain ⟨n2, hn2⟩ : ∃ n, n = m.length := ⟨_, rfl⟩
  obtain ⟨v, hv⟩ : ∃ v, v = cmpL (toU l) (toU m) := ⟨_, rfl⟩
  rw [← hn1, ← hn2, ← hv] at K
  rw [← hn1, ← hn2, ← hv]
  clear hn1 hn2 hv hr hr2
  go_enter Try.func147, Try.ntmps147
  go_wp2
  rw [run_callFunc_extern Try.func155 (by kernel_rfl) (by kernel_rfl) (by kernel_rfl) (e := Extern.BytealgCompare.compare) (by kernel_rfl), K]
  simp only [Result.andThen]
  rw [Oper.upon_value]
  go_wp2
  go_ret
  exact ⟨rfl, rfl⟩
theorem implCompareBytes_any (a a2 : Option Addr) (c c2 : Nat) (l m : List Int) (w : World) (B : Nat) (hr : Reads w B a (ints .u8 l)) (hr2 : Reads w B a2 (ints .u8 m)) :
    Calls Try.prog 126 #[.slice a l.length c, .slice a2 m.length c2] w fun e w' => e = .returned (.int .i64 (cmpL (toU l) (toU m))) ∧ Drew w w' := by
  have H := Lib.hid (fun w hr hr2 => bytesCompare_any a a2 c c2 l m w B hr hr2)
  go_enter Try.func126, Try.ntmps126
  go_wp2_with (go_at_call 147; with_reducible refine (H.out _ hr hr2).mono ?_; rintro e w1 ⟨rfl, rfl⟩)
  go_ret
  exact ⟨rfl, Drew.refl w⟩

theorem compareString_any (a b : ByteArray) (w : World) :
    Calls Try.prog 148 #[.string a, .string b] w fun e w' => e = .returned (.int .i64 (cmpL a.data.toList b.data.toList)) ∧ w = w' := by
  have K := Lib.run_compareString (P := Try.prog) a b w
  rw [cmpB_eq] at K
  obtain ⟨v, hv⟩ : ∃ v, v = cmpL a.data.toList b.data.toList := ⟨_, rfl⟩
  rw [← hv] at K ⊢
  clear hv
  go_enter Try.func148, Try.ntmps148
  go_wp2
  rw [run_callFunc_extern Try.func156 (by kernel_rfl) (by kernel_rfl) (by kernel_rfl) (e := Extern.BytealgCompare.compare) (by kernel_rfl), K]
  simp only [Result.andThen]
  rw [Oper.upon_value]
  go_wp2
  go_ret
  exact ⟨rfl, rfl⟩
theorem stringsCompare_any (a b : ByteArray) (w : World) :
    Calls Try.prog 127 #[.string a, .string b] w fun e w' => e = .returned (.int .i64 (cmpL a.data.toList b.data.toList)) ∧ w = w' := by
  have H := Lib.hid (fun w => compareString_any a b w)
  go_enter Try.func127, Try.ntmps127
  go_wp2_with (go_at_call 148; with_reducible refine (H.out _).mono ?_; rintro e w1 ⟨rfl, rfl⟩)
  go_ret
  exact ⟨rfl, rfl⟩
theorem isNaN_any (x : Int) (w : World) :
    Calls Try.prog 125 #[.int .i64 x] w fun e w' => e = .returned (.bool false) ∧ w = w' := by
  go_enter Try.func125, Try.ntmps125
  go_wp2
  go_ret
  exact ⟨by simp, rfl⟩
theorem cmpInt_any (x y : Int) (hn : ¬ x = y) (w : World) :
    Calls Try.prog 86 #[.int .i64 x, .int .i64 y] w fun e w' => e = .returned (.int .i64 (sgn (decide (x < y)) true)) ∧ w = w' := by
  have H := Lib.hid isNaN_any
  rcases (show x < y ∨ (¬ x < y ∧ x > y) by omega) with h | ⟨h, h2⟩
  all_goals
    go_enter Try.func86, Try.ntmps86
    go_wp2_with (go_at_call 125; refine (H.out _ _).mono ?_; rintro e w1 ⟨rfl, rfl⟩)
    go_ret
    exact ⟨by simp [h, sgn], rfl⟩
end Go.Proofs.Ytmnedjhfibmcnaa.L4

/-
  The contracts of chapter 4's tests of the program: isLetter, isDigit, isKeyNumber, isKeyText, IsKey. Conditions: a text of at most 2^48 bytes.
-/
namespace Go.Proofs.Ytmnedjhfibmcnaa.L4
set_option maxRecDepth 100000
open Go.ChangeShapes Go.WideShapes Go.ChangeAt Go.RowKit Mem Sl Ex L2
set_option linter.unusedVariables false

def isDig (c : UInt8) : Bool := decide (48 ≤ c.toNat) && decide (c.toNat ≤ 57)
theorem chr_eq (c : UInt8) : chr c = (isLet c || isDig c) := rfl

theorem isDigit_any (c : UInt8) (w : World) :
    Calls Try.prog 154 #[.int .u8 c.toNat] w fun e w' => e = .returned (.bool (isDig c)) ∧ w = w' := by
  by_cases h1 : (48 : Int) ≤ c.toNat <;> by_cases h2 : (c.toNat : Int) ≤ 57 <;>
    (go_enter Try.func154, Try.ntmps154
     go_wp2
     go_ret
     exact ⟨L1.ret_bool (by unfold isDig; have h1' := h1; have h2' := h2; simp only [Bool.false_eq, Bool.true_eq, Bool.and_eq_false_iff, Bool.and_eq_true, decide_eq_false_iff_not, decide_eq_true_eq]; omega), rfl⟩)
theorem isKeyNumber_any (n : Int) (w : World) :
    Calls Try.prog 142 #[.int .i64 n] w fun e w' => e = .returned (.bool (L1.inB n (-1000000000000) 1000000000000)) ∧ w = w' := by
  have H1 := Lib.hid (fun w => L1.inRange_any n (-1000000000000) 1000000000000 w)
  obtain ⟨b, hb⟩ : ∃ b, L1.inB n (-1000000000000) 1000000000000 = b := ⟨_, rfl⟩
  rw [hb] at H1 ⊢
  go_enter Try.func142, Try.ntmps142
  go_wp2_with (go_at_call 117; with_reducible refine (H1.out _).mono ?_; rintro e w1 ⟨rfl, rfl⟩)
  go_ret
  exact ⟨rfl, rfl⟩
theorem isKeyText_any (s : ByteArray) (hs : s.size ≤ 281474976710656) (w : World) :
    Calls Try.prog 143 #[.string s] w fun e w' => e = .returned (.bool (isT s.data.toList)) ∧ w = w' := by
  have hsz : s.data.toList.length = s.size := by rw [Array.length_toList]; rfl
  have HZ := Lib.hid hsz
  clear hsz
  by_cases h12 : (s.size : Int) ≤ 12
  · go_enter Try.func143, Try.ntmps143
    go_wp2
    go_loop [9] (fun i => ∃ k : Nat, k ≤ s.size ∧ i = .int .i64 k ∧ Hid (∀ j (hj : j < s.data.toList.length), j < k → chr s.data.toList[j] = true)) (fun i => s.size - (intOf i).toNat)
    case atStart => exact ⟨0, Nat.zero_le _, rfl, fun j hj h => by omega⟩
    case round =>
      obtain ⟨k, hk, rfl, hrel⟩ := hrel
      by_cases hlt : k < s.size
      · have hb : s.data.toList[k]? = some s[k] := by
          rw [List.getElem?_eq_getElem (by rw [HZ.out]; exact hlt)]
          rfl
        have HB := Lib.hid hb
        clear hb
        have HC := Lib.hid (chr_eq s[k])
        have H1 := Lib.hid (fun w => isLetter_any s[k] w)
        have H2 := Lib.hid (fun w => isDigit_any s[k] w)
        obtain ⟨bl, hbl⟩ : ∃ b, isLet s[k] = b := ⟨_, rfl⟩
        obtain ⟨bd, hbd⟩ : ∃ b, isDig s[k] = b := ⟨_, rfl⟩
        rw [hbl] at H1 HC
        rw [hbd] at H2 HC
        clear hbl hbd
        cases bl
        all_goals
          cases bd
          all_goals
            go_wp2_with (first
              | (go_at_call 141; refine (H1.out _).mono ?_; rintro e w1 ⟨rfl, rfl⟩)
              | (go_at_call 154; refine (H2.out _).mono ?_; rintro e w1 ⟨rfl, rfl⟩))
            first
            | (go_round
               case rel => exact ⟨k + 1, by omega, by go_num, fun j hj h => by
                  by_cases e : j < k
                  · exact hrel.out j hj e
                  · obtain rfl : j = k := by omega
                    have := HB.out
                    rw [List.getElem?_eq_getElem hj] at this
                    rw [Option.some.inj this]
                    exact HC.out⟩
               case measure => simp [intOf]; omega)
            | (go_ret
               exact ⟨by rw [isT_no k _ HB.out HC.out]; rfl, rfl⟩)
      · go_wp2
        go_ret
        obtain rfl : k = s.size := by omega
        have e1 := isT_all (fun j hj => hrel.out j hj (by rw [HZ.out] at hj; exact hj))
        rw [HZ.out] at e1
        refine ⟨?_, rfl⟩
        rw [e1, decide_eq_true (show s.size ≤ 12 by omega)]
        rfl
  · go_enter Try.func143, Try.ntmps143
    go_wp2
    go_ret
    refine ⟨?_, rfl⟩
    have : isT s.data.toList = false := by
      unfold isT
      rw [HZ.out, decide_eq_false (show ¬ s.size ≤ 12 by omega), Bool.and_false]
    rw [this]
    rfl
set_option maxHeartbeats 2000000 in
theorem implIsKey_any (k : K) (hs : k.text.size ≤ 281474976710656) (w : World) :
    Calls Try.prog 118 #[k.v] w fun e w' => e = .returned (.bool (isK k)) ∧ Below w.heap.size w w' := by
  obtain ⟨kd, n, s⟩ := k
  unfold K.v
  obtain ⟨b2, hb2⟩ : ∃ b, L1.inB n (-1000000000000) 1000000000000 = b := ⟨_, rfl⟩
  obtain ⟨b4, hb4⟩ : ∃ b, isT s.data.toList = b := ⟨_, rfl⟩
  have H2 := Lib.hid (fun w => isKeyNumber_any n w)
  have H4 := Lib.hid (fun w => isKeyText_any s hs w)
  rw [hb2] at H2
  rw [hb4] at H4
  obtain ⟨c0, hc0⟩ : ∃ b, (n == 0) = b := ⟨_, rfl⟩
  obtain ⟨ct, hct⟩ : ∃ b, (s.toList == []) = b := ⟨_, rfl⟩
  have HE := show isK ⟨kd, n, s⟩ = (L1.inB kd 1 3 && b2 && (kd != 2 || c0) && b4 && (kd != 1 || ct)) by unfold isK; rw [hb2, show K.t ⟨kd, n, s⟩ = s.data.toList from rfl, hb4, ← hct, ByteArray.toList_eq, ← hc0]
  have hx1 : ct = true → b4 = true := fun h => by
    rw [h, ByteArray.toList_eq, beq_iff_eq] at hct
    rw [← hb4, hct]
    rfl
  have hx2 : c0 = true → b2 = true := fun h => by
    rw [h, beq_iff_eq] at hc0
    rw [← hb2, hc0]
    rfl
  have HB := Lib.hid (fun o => below_alloc (Below.refl w.heap.size w) o (Nat.le_refl _))
  clear hb2 hb4
  rcases (show kd = 1 ∨ kd = 2 ∨ kd = 3 ∨ (kd ≠ 1 ∧ kd ≠ 2 ∧ kd ≠ 3) by omega) with rfl | rfl | rfl | ⟨hk1, hk2, hk3⟩
  · rw [show isK ⟨1, n, s⟩ = (b2 && ct) by rw [HE]; revert hx1; cases b2 <;> cases b4 <;> cases ct <;> simp [L1.inB]]
    clear HE hc0 hx1 hx2
    rcases (show b2 = false ∨ b2 = true by cases b2 <;> simp) with rfl | rfl
    all_goals
      go_enter Try.func118, Try.ntmps118
      go_wp2_with (go_at_call 142; with_reducible refine (H2.out _).mono ?_; rintro e w1 ⟨rfl, rfl⟩)
      go_ret
      exact ⟨rfl, HB.out _⟩
  · rw [show isK ⟨2, n, s⟩ = (c0 && b4) by rw [HE]; revert hx2; cases b2 <;> cases b4 <;> cases c0 <;> simp [L1.inB]]
    clear HE hct hx1 hx2
    rcases (show c0 = false ∨ c0 = true by cases c0 <;> simp) with rfl | rfl
    all_goals
      go_enter Try.func118, Try.ntmps118
      go_wp2_with (go_at_call 143; refine (H4.out _).mono ?_; rintro e w1 ⟨rfl, rfl⟩)
      go_ret
      exact ⟨rfl, HB.out _⟩
  · rw [show isK ⟨3, n, s⟩ = (b2 && b4) by rw [HE]; cases b2 <;> cases b4 <;> cases c0 <;> cases ct <;> simp [L1.inB]]
    clear HE hct hc0 hx1 hx2
    rcases (show b2 = false ∨ b2 = true by cases b2 <;> simp) with rfl | rfl
    all_goals
      go_enter Try.func118, Try.ntmps118
      go_wp2_with (first
        | (go_at_call 142; with_reducible refine (H2.out _).mono ?_; rintro e w1 ⟨rfl, rfl⟩)
        | (go_at_call 143; refine (H4.out _).mono ?_; rintro e w1 ⟨rfl, rfl⟩))
      go_ret
      exact ⟨rfl, HB.out _⟩
  · have : L1.inB kd 1 3 = false := L1.inB_false.2 (by omega)
    rw [HE, this]
    clear HE hct hc0 hx1 hx2 this
    replace hk1 : ¬ kd = 1 := hk1
    replace hk2 : ¬ kd = 2 := hk2
    replace hk3 : ¬ kd = 3 := hk3
    go_enter Try.func118, Try.ntmps118
    go_wp2_with fail
    go_ret
    exact ⟨by simp, HB.out _⟩
end Go.Proofs.Ytmnedjhfibmcnaa.L4

/-
  The contracts of encodeNumber and EncodeKey of the program. Conditions: a text of at most 2^40 bytes.
-/
namespace Go.Proofs.Ytmnedjhfibmcnaa.L4
open Go.Op (bytesLess)
open Go.ChangeShapes Go.WideShapes Go.ChangeAt Go.RowKit Mem Sl Ex L2
set_option maxRecDepth 100000
set_option linter.unusedVariables false

def numCells (m : Nat) : Array Value := #[.int .u8 ((m / 1099511627776 % 256 : Nat) : Int), .int .u8 ((m / 4294967296 % 256 : Nat) : Int), .int .u8 ((m / 16777216 % 256 : Nat) : Int), .int .u8 ((m / 65536 % 256 : Nat) : Int), .int .u8 ((m / 256 % 256 : Nat) : Int), .int .u8 ((m / 1 % 256 : Nat) : Int)]

set_option maxHeartbeats 2000000 in
theorem encodeNumber_any (n : Int) (m : Nat) (hm : (m : Int) = n + 1000000000000) (h1 : n ≤ 1000000000000) (w : World) :
    Calls Try.prog 122 #[.int .i64 n] w fun e w' => e = .returned (.agg (numCells m)) ∧ Below w.heap.size w w' := by
  obtain ⟨M, hM⟩ : ∃ M : Int, M = n + 1000000000000 := ⟨_, rfl⟩
  have hM0 : 0 ≤ M := by omega
  have hM1 : M ≤ 2000000000000 := by omega
  go_enter Try.func122, Try.ntmps122
  go_wp2
  refine wp_loop_rounds 7 ?_
  iterate 7 (rw [rounds_succ]; go_wp2)
  refine bodyPost_ret (v := .agg _) (by simp [results, Try.results122, go_sem]; rfl) rfl ?_
  refine ⟨?_, below_alloc (below_alloc (Below.refl _ _) _ (Nat.le_refl _)) _ (Nat.le_refl _)⟩
  have e0 : (n + 1000000000000) / 256 / 256 / 256 / 256 / 256 = ((m / 1099511627776 % 256 : Nat) : Int) := by omega
  have e1 : (n + 1000000000000) / 256 / 256 / 256 / 256 % 256 = ((m / 4294967296 % 256 : Nat) : Int) := by omega
  have e2 : (n + 1000000000000) / 256 / 256 / 256 % 256 = ((m / 16777216 % 256 : Nat) : Int) := by omega
  have e3 : (n + 1000000000000) / 256 / 256 % 256 = ((m / 65536 % 256 : Nat) : Int) := by omega
  have e4 : (n + 1000000000000) / 256 % 256 = ((m / 256 % 256 : Nat) : Int) := by omega
  have e5 : (n + 1000000000000) % 256 = ((m / 1 % 256 : Nat) : Int) := by omega
  rw [e0, e1, e2, e3, e4, e5]
  rfl

theorem numCells_form (m : Nat) : ∃ x0 x1 x2 x3 x4 x5 : Int, numCells m = #[.int .u8 x0, .int .u8 x1, .int .u8 x2, .int .u8 x3, .int .u8 x4, .int .u8 x5] ∧ toI (be 6 m) = [x0, x1, x2, x3, x4, x5] := by
  refine ⟨_, _, _, _, _, _, rfl, ?_⟩
  simp only [be, toI, List.map_cons, List.map_nil, UInt8.toNat_ofNat', show (256 ^ 5 : Nat) = 1099511627776 from rfl, show (256 ^ 4 : Nat) = 4294967296 from rfl, show (256 ^ 3 : Nat) = 16777216 from rfl, show (256 ^ 2 : Nat) = 65536 from rfl, show (256 ^ 1 : Nat) = 256 from rfl, show (256 ^ 0 : Nat) = 1 from rfl, Nat.mod_mod]
theorem reads_row {w : World} {g : Nat} {t : TypeId} {k : IntKind} {l : List Int} (h : Row w g t (ints k l).toArray) : Reads w w.heap.size (some ⟨g, 0, none⟩) (ints k l) := fun j hj => by
  refine ⟨_, rfl, by simpa [add_block] using h.inside, ?_⟩
  rw [Addr.add_lit, h.cell]
  simp [List.getElem?_eq_getElem hj]

section
variable {P : Program} (w : World)
end

end Go.Proofs.Ytmnedjhfibmcnaa.L4

/-
  Arrays of six bytes, compared. No condition.
-/
namespace Go.Proofs.Ytmnedjhfibmcnaa.L4
set_option maxRecDepth 100000
open Go.ChangeShapes Go.WideShapes Go.ChangeAt Go.RowKit Mem Sl Ex L2
set_option maxHeartbeats 2000000 in
theorem array_eq (x0 x1 x2 x3 x4 x5 y0 y1 y2 y3 y4 y5 : Int) (w : World) :
    (Op.equalIn 10000 141 (.agg #[.int .u8 x0, .int .u8 x1, .int .u8 x2, .int .u8 x3, .int .u8 x4, .int .u8 x5]) (.agg #[.int .u8 y0, .int .u8 y1, .int .u8 y2, .int .u8 y3, .int .u8 y4, .int .u8 y5])).run Try.prog w = .ok (decide ([x0, x1, x2, x3, x4, x5] = [y0, y1, y2, y3, y4, y5])) w := by
  obtain ⟨i0, hi, hz0, hz1, hz2⟩ := infoOf _ _ _ _ info8
  have hu : Try.prog.underlying 141 = some (.array 6 5) := Try.underlying141
  rw [show (10000 : Nat) = 9998 + 1 + 1 from rfl, run_equalIn_array w (9998 + 1) _ _ hu hi, show List.range 6 = [0, 1, 2, 3, 4, 5] from rfl, show Try.prog.cellsOf 5 = 1 by kernel_rfl]
  have he : ∀ (a b : Int) (w : World), (Op.equalIn (9998 + 1) 5 (.int .u8 a) (.int .u8 b)).run Try.prog w = .ok (a == b) w := fun a b w => run_equalIn_int w 9998 5 .u8 .u8 a b Try.underlying5
  simp [Op.eqItems, he, go_sem]
  (repeat' split) <;> simp_all
end Go.Proofs.Ytmnedjhfibmcnaa.L4

/-
  The contract of CompareKeys of the program. Conditions: texts of at most 2^48 bytes.
-/
namespace Go.Proofs.Ytmnedjhfibmcnaa.L4
open Go.Op (bytesLess)
open Go.ChangeShapes Go.WideShapes Go.ChangeAt Go.RowKit Mem Sl Ex L2
set_option maxRecDepth 100000
set_option linter.unusedVariables false
set_option linter.unusedSimpArgs false

theorem step_store_box {P : Program} {ops : Array Oper} {o : Oper} {a : Act} {w : World} {K : Act → World → Prop} {Q : Exit → Act → World → Prop} {E : Prop} (hgd : o.guard = none) (ty : TypeId) (x y : Operand) (ho : o.op = .store ty x y)
    (g : Nat) (t : TypeId) (old cells : Array Value) (hx : a.eval x = .pointer (some ⟨g, 0, none⟩)) (hy : a.eval y = .agg cells) (hr : Row w g t old) (hi : (P.info? ty).map (·.size) = some cells.size) (hold : old.size = cells.size) (h1 : cells.all (·.oneCell') = true)
    (h : ∀ w', Turned [g] w w' → Row w' g t cells → K (a.put o.dst undef) w') : if Region.wanted o (yielded ops a.tmps) = true then Oper.wp P o a w K Q else E := by
  have hw : Region.wanted o (yielded ops a.tmps) = true := by simp [Region.wanted, hgd]
  rw [if_pos hw]
  refine wp_store_row ty x y ho g cells hx hy t old hr hi hold h1 (h _ ⟨rfl, rfl, rfl, by simp [World.setRow], fun b _ hb => setRow_other w g b cells (by simpa using hb)⟩ (setRow_heap w g old cells t (0, 0) hr))
theorem sep_two {W w : World} {a b : Res} {ts : List Res} (h : Sep W w (a :: b :: ts)) : Sep W w [a, b] := by
  have e : ∀ (i : Nat) (r : Res), [a, b][i]? = some r → (a :: b :: ts)[i]? = some r := fun i r hi => by
    match i with
    | 0 => simpa using hi
    | 1 => simpa using hi
    | i + 2 => simp at hi
  exact ⟨h.old, fun i r hi => h.is i r (e i r hi), fun i r hi => h.lies i r (e i r hi), fun i j r s hi hj => h.apart i j r s (e i r hi) (e j s hj)⟩
theorem box6 {w : World} {g : Nat} {t : TypeId} {a0 a1 a2 a3 a4 a5 : Value} (hr : Row w g t #[a0, a1, a2, a3, a4, a5]) : w.cell? ⟨g, 0, none⟩ = some a0 ∧ w.cell? ⟨g, 1, none⟩ = some a1 ∧ w.cell? ⟨g, 2, none⟩ = some a2 ∧ w.cell? ⟨g, 3, none⟩ = some a3 ∧ w.cell? ⟨g, 4, none⟩ = some a4 ∧ w.cell? ⟨g, 5, none⟩ = some a5 := by
  refine ⟨?_, ?_, ?_, ?_, ?_, ?_⟩ <;> (rw [hr.cell]; rfl)
set_option maxHeartbeats 30000000 in
theorem implCompareKeys_any (a b : K) (ha : a.text.size ≤ 281474976710656) (hb : b.text.size ≤ 281474976710656) (w : World) :
    Calls Try.prog 88 #[a.v, b.v] w fun e w' => e = .returned (.int .i64 (cmpK a b)) ∧ Below w.heap.size w w' := by
  have H1 := Lib.hid (fun w => implIsKey_any a ha w)
  have H2 := Lib.hid (fun w => implIsKey_any b hb w)
  obtain ⟨ia, hia⟩ : ∃ x, isK a = x := ⟨_, rfl⟩
  obtain ⟨ib, hib⟩ : ∃ x, isK b = x := ⟨_, rfl⟩
  rw [hia] at H1
  rw [hib] at H2
  obtain ⟨ka, na, sa⟩ := a
  obtain ⟨kb, nb, sb⟩ := b
  have S0 := Sl.Sep.start w
  have S1 := L4.push_box S0 28 #[.int .i64 ka, .int .i64 na, .string sa] (w.heap.size) (by simp)
  clear S0
  have S2 := L4.push_box S1 28 #[.int .i64 kb, .int .i64 nb, .string sb] (w.heap.size + 1) (by simp)
  clear S1
  unfold K.v at H1 H2 ⊢
  go_enter Try.func88, Try.ntmps88
  go_wp2_with fail
  go_at_call 118
  refine (H1.out _).mono ?_
  rintro e w3 ⟨rfl, h3⟩
  have S3 := S2.keep h3
  clear S2 h3
  obtain ⟨f0_0, f0_1, f0_2⟩ := L4.box3 S3 0 rfl
  obtain ⟨f1_0, f1_1, f1_2⟩ := L4.box3 S3 1 rfl
  cases ia with
  | false =>
    go_wp2_with fail
    go_ret
    exact ⟨by rw [cmpK_bad1 hia]; rfl, S3.old⟩
  | true =>
    go_wp2_with fail
    go_at_call 118
    refine (H2.out _).mono ?_
    rintro e w4 ⟨rfl, h4⟩
    have S4 := S3.keep h4
    clear S3 h4 f0_0 f0_1 f0_2 f1_0 f1_1 f1_2
    obtain ⟨f0_0, f0_1, f0_2⟩ := L4.box3 S4 0 rfl
    obtain ⟨f1_0, f1_1, f1_2⟩ := L4.box3 S4 1 rfl
    cases ib with
    | false =>
      go_wp2_with fail
      go_ret
      exact ⟨by rw [cmpK_bad2 hib]; rfl, S4.old⟩
    | true =>
      have ga := isK_iff.1 hia
      have gb := isK_iff.1 hib
      by_cases hk : ka = kb
      · obtain ⟨ma, hma⟩ : ∃ m : Nat, (m : Int) = na + 1000000000000 := ⟨(na + 1000000000000).toNat, by have := ga.n0; simp only at this; omega⟩
        obtain ⟨mb, hmb⟩ : ∃ m : Nat, (m : Int) = nb + 1000000000000 := ⟨(nb + 1000000000000).toNat, by have := gb.n0; simp only at this; omega⟩
        have HA := Lib.hid (fun w => encodeNumber_any na ma hma ga.n1 w)
        have HB := Lib.hid (fun w => encodeNumber_any nb mb hmb gb.n1 w)
        obtain ⟨x0, x1, x2, x3, x4, x5, hxc, hxl⟩ := numCells_form ma
        obtain ⟨y0, y1, y2, y3, y4, y5, hyc, hyl⟩ := numCells_form mb
        rw [hxc] at HA
        rw [hyc] at HB
        have HE1 := Lib.hid (fun (hn : na = nb) => cmpK_t hia hib hk hn)
        have HE2 := Lib.hid (fun (hn : ¬ na = nb) => cmpK_n hia hib hk hn)
        have HM := Lib.hid (And.intro hma (And.intro hmb (And.intro hxl hyl)))
        have HM2 := Lib.hid (show na ≤ 1000000000000 ∧ nb ≤ 1000000000000 from ⟨ga.n1, gb.n1⟩)
        subst hk
        clear hia hib ga gb hxc hyc hma hmb hxl hyl
        go_upto_region 5 with fail
        go_cut [5, 6] (fun p q wx => ∃ g1 g2, p = .pointer (some ⟨g1, 0, none⟩) ∧ q = .pointer (some ⟨g2, 0, none⟩) ∧ Hid (Row wx g1 141 #[.int .u8 x0, .int .u8 x1, .int .u8 x2, .int .u8 x3, .int .u8 x4, .int .u8 x5] ∧ Row wx g2 141 #[.int .u8 y0, .int .u8 y1, .int .u8 y2, .int .u8 y3, .int .u8 y4, .int .u8 y5] ∧ Sep w wx [boxR w.heap.size 28 #[.int .i64 ka, .int .i64 na, .string sa], boxR (w.heap.size + 1) 28 #[.int .i64 ka, .int .i64 nb, .string sb]]))
        case first =>
          refine wp_region_held_drew (S := fun w' => w'.cell? ⟨w.heap.size, 1, none⟩ = some (.int .i64 na) ∧ w'.cell? ⟨w.heap.size + 1, 1, none⟩ = some (.int .i64 nb)) (by kernel_rfl) ⟨f0_1, f1_1⟩ (fun hS => ?_)
          have S4d : Sep w w4.drew _ := S4.drews 1
          clear f0_0 f0_1 f0_2 f1_0 f1_1 f1_2 S4
          generalize w4.drew = wd at hS S4d ⊢
          refine wpAnyH_take (i := 0) (v := ?_) rfl (by kernel_rfl) (by kernel_rfl) (by kernel_rfl) (fun _ _ _ h => h) (Or.inl ⟨by rfl, ?_⟩) (by assumption) ?_
          rotate_left
          · (intro w hSw; (try dsimp only at hSw); go_simp; try with_reducible rfl)
          try simp only [zp0, zp1, zp2, zp3, zp4]
          refine wpAnyH_take (i := 1) (v := ?_) rfl (by kernel_rfl) (by kernel_rfl) (by kernel_rfl) (fun _ _ _ h => h) (Or.inl ⟨by rfl, ?_⟩) (by assumption) ?_
          rotate_left
          · (intro w hSw; (try dsimp only at hSw); go_simp; try with_reducible rfl)
          try simp only [zp0, zp1, zp2, zp3, zp4]
          refine wpAnyH_take (i := 3) (v := ?_) rfl (by kernel_rfl) (by kernel_rfl) (by kernel_rfl) (fun _ _ _ h => h) (Or.inl ⟨by rfl, ?_⟩) (by assumption) ?_
          rotate_left
          · (intro w hSw; (try dsimp only at hSw); go_simp; try with_reducible rfl)
          try simp only [zp0, zp1, zp2, zp3, zp4]
          refine wpAnyH_take (i := 4) (v := ?_) rfl (by kernel_rfl) (by kernel_rfl) (by kernel_rfl) (fun _ _ _ h => h) (Or.inl ⟨by rfl, ?_⟩) (by assumption) ?_
          rotate_left
          · (intro w hSw; (try dsimp only at hSw); go_simp; try with_reducible rfl)
          try simp only [zp0, zp1, zp2, zp3, zp4]
          refine wpAnyH_ready (rs := [2, 6, 7]) (by kernel_rfl) (by simp) ?_
          refine AllReadyH.cons rfl (fun K hK => ?_) ?_
          · go_simp
            go_at_call 122
            refine (HA.out _).mono ?_
            rintro e w1x ⟨rfl, hb⟩
            have S1x := Sl.Sep.keep S4d hb
            clear hb S4d
            go_wp2_with fail
            refine hK.out _ _ ⟨(box3 S1x 0 rfl).2.1, (box3 S1x 1 rfl).2.1⟩ (fun hS => ?_)
            clear hK K
            try simp only [zp0, zp1, zp2, zp3, zp4]
            refine wpAnyH_ready (rs := [5, 6, 7]) (by kernel_rfl) (by simp) ?_
            refine AllReadyH.cons rfl (fun K hK => ?_) ?_
            · go_simp
              go_at_call 122
              refine (HB.out _).mono ?_
              rintro e w2x ⟨rfl, hb⟩
              have S2x := Sl.Sep.keep S1x hb
              clear hb S1x
              go_wp2_with fail
              refine hK.out _ _ ⟨(box3 S2x 0 rfl).2.1, (box3 S2x 1 rfl).2.1⟩ (fun hS => ?_)
              clear hK K
              try simp only [zp0, zp1, zp2, zp3, zp4]
              refine wpAnyH_ready (rs := [6, 7]) (by kernel_rfl) (by simp) ?_
              refine AllReadyH.cons rfl (fun K hK => ?_) ?_
              · have S3x := push_box S2x 141 #[.int .u8 0, .int .u8 0, .int .u8 0, .int .u8 0, .int .u8 0, .int .u8 0] w2x.heap.size rfl
                go_simp
                refine hK.out _ _ ⟨(box3 S3x 0 rfl).2.1, (box3 S3x 1 rfl).2.1⟩ (fun hS => ?_)
                clear hK K
                try simp only [zp0, zp1, zp2, zp3, zp4]
                generalize w2x.alloc (.cells #[.int .u8 0, .int .u8 0, .int .u8 0, .int .u8 0, .int .u8 0, .int .u8 0] 141) = w3x at hS S3x ⊢
                refine wpAnyH_ready (rs := [7]) (by kernel_rfl) (by simp) ?_
                refine AllReadyH.cons rfl (fun K hK => ?_) ?_
                · have S4x := push_box S3x 141 #[.int .u8 0, .int .u8 0, .int .u8 0, .int .u8 0, .int .u8 0, .int .u8 0] w3x.heap.size rfl
                  go_simp
                  refine hK.out _ _ ⟨(box3 S4x 0 rfl).2.1, (box3 S4x 1 rfl).2.1⟩ (fun hS => ?_)
                  clear hK K
                  try simp only [zp0, zp1, zp2, zp3, zp4]
                  generalize w3x.alloc (.cells #[.int .u8 0, .int .u8 0, .int .u8 0, .int .u8 0, .int .u8 0, .int .u8 0] 141) = w4x at hS S4x ⊢
                  refine wpAnyH_ready (rs := [8]) (by kernel_rfl) (by simp) ?_
                  refine AllReadyH.cons rfl (fun K hK => ?_) ?_
                  · refine step_store_box rfl 141 (.tmp 5) (.tmp 27) rfl w2x.heap.size 141 #[.int .u8 0, .int .u8 0, .int .u8 0, .int .u8 0, .int .u8 0, .int .u8 0] #[.int .u8 x0, .int .u8 x1, .int .u8 x2, .int .u8 x3, .int .u8 x4, .int .u8 x5] rfl rfl (box_at S4x 2 rfl) (by kernel_rfl) rfl (by simp [Value.oneCell']) ?_
                    intro w5x ht hr
                    have S5x := Sl.Sep.put (r' := boxR w2x.heap.size 141 #[.int .u8 x0, .int .u8 x1, .int .u8 x2, .int .u8 x3, .int .u8 x4, .int .u8 x5]) S4x 2 rfl ht hr (fun b hb => hb)
                    clear ht hr
                    refine hK.out _ _ ⟨(box3 S5x 0 rfl).2.1, (box3 S5x 1 rfl).2.1⟩ (fun hS => ?_)
                    clear hK K
                    try simp only [zp0, zp1, zp2, zp3, zp4]
                    refine wpAnyH_ready (rs := [9]) (by kernel_rfl) (by simp) ?_
                    refine AllReadyH.cons rfl (fun K hK => ?_) ?_
                    · refine step_store_box rfl 141 (.tmp 6) (.tmp 30) rfl w3x.heap.size 141 #[.int .u8 0, .int .u8 0, .int .u8 0, .int .u8 0, .int .u8 0, .int .u8 0] #[.int .u8 y0, .int .u8 y1, .int .u8 y2, .int .u8 y3, .int .u8 y4, .int .u8 y5] rfl rfl (box_at S5x 3 rfl) (by kernel_rfl) rfl (by simp [Value.oneCell']) ?_
                      intro w6x ht hr
                      have S6x := Sl.Sep.put (r' := boxR w3x.heap.size 141 #[.int .u8 y0, .int .u8 y1, .int .u8 y2, .int .u8 y3, .int .u8 y4, .int .u8 y5]) S5x 3 rfl ht hr (fun b hb => hb)
                      clear ht hr
                      refine hK.out _ _ ⟨(box3 S6x 0 rfl).2.1, (box3 S6x 1 rfl).2.1⟩ (fun hS => ?_)
                      clear hK K
                      try simp only [zp0, zp1, zp2, zp3, zp4]
                      refine wpAnyH_done (by kernel_rfl) ?_ _
                      go_wp2_with fail
                      go_meet
                      case rel => exact ⟨_, _, rfl, rfl, And.intro (box_at S6x 2 rfl) (And.intro (box_at S6x 3 rfl) (sep_two S6x))⟩
                    exact AllReadyH.nil
                  exact AllReadyH.nil
                exact AllReadyH.nil
              refine AllReadyH.cons rfl (fun K hK => ?_) ?_
              · have S7x := push_box S2x 141 #[.int .u8 0, .int .u8 0, .int .u8 0, .int .u8 0, .int .u8 0, .int .u8 0] w2x.heap.size rfl
                go_simp
                refine hK.out _ _ ⟨(box3 S7x 0 rfl).2.1, (box3 S7x 1 rfl).2.1⟩ (fun hS => ?_)
                clear hK K
                try simp only [zp0, zp1, zp2, zp3, zp4]
                generalize w2x.alloc (.cells #[.int .u8 0, .int .u8 0, .int .u8 0, .int .u8 0, .int .u8 0, .int .u8 0] 141) = w7x at hS S7x ⊢
                refine wpAnyH_ready (rs := [6]) (by kernel_rfl) (by simp) ?_
                refine AllReadyH.cons rfl (fun K hK => ?_) ?_
                · have S8x := push_box S7x 141 #[.int .u8 0, .int .u8 0, .int .u8 0, .int .u8 0, .int .u8 0, .int .u8 0] w7x.heap.size rfl
                  go_simp
                  refine hK.out _ _ ⟨(box3 S8x 0 rfl).2.1, (box3 S8x 1 rfl).2.1⟩ (fun hS => ?_)
                  clear hK K
                  try simp only [zp0, zp1, zp2, zp3, zp4]
                  generalize w7x.alloc (.cells #[.int .u8 0, .int .u8 0, .int .u8 0, .int .u8 0, .int .u8 0, .int .u8 0] 141) = w8x at hS S8x ⊢
                  refine wpAnyH_ready (rs := [8]) (by kernel_rfl) (by simp) ?_
                  refine AllReadyH.cons rfl (fun K hK => ?_) ?_
                  · refine step_store_box rfl 141 (.tmp 5) (.tmp 27) rfl w7x.heap.size 141 #[.int .u8 0, .int .u8 0, .int .u8 0, .int .u8 0, .int .u8 0, .int .u8 0] #[.int .u8 x0, .int .u8 x1, .int .u8 x2, .int .u8 x3, .int .u8 x4, .int .u8 x5] rfl rfl (box_at S8x 3 rfl) (by kernel_rfl) rfl (by simp [Value.oneCell']) ?_
                    intro w9x ht hr
                    have S9x := Sl.Sep.put (r' := boxR w7x.heap.size 141 #[.int .u8 x0, .int .u8 x1, .int .u8 x2, .int .u8 x3, .int .u8 x4, .int .u8 x5]) S8x 3 rfl ht hr (fun b hb => hb)
                    clear ht hr
                    refine hK.out _ _ ⟨(box3 S9x 0 rfl).2.1, (box3 S9x 1 rfl).2.1⟩ (fun hS => ?_)
                    clear hK K
                    try simp only [zp0, zp1, zp2, zp3, zp4]
                    refine wpAnyH_ready (rs := [9]) (by kernel_rfl) (by simp) ?_
                    refine AllReadyH.cons rfl (fun K hK => ?_) ?_
                    · refine step_store_box rfl 141 (.tmp 6) (.tmp 30) rfl w2x.heap.size 141 #[.int .u8 0, .int .u8 0, .int .u8 0, .int .u8 0, .int .u8 0, .int .u8 0] #[.int .u8 y0, .int .u8 y1, .int .u8 y2, .int .u8 y3, .int .u8 y4, .int .u8 y5] rfl rfl (box_at S9x 2 rfl) (by kernel_rfl) rfl (by simp [Value.oneCell']) ?_
                      intro w10x ht hr
                      have S10x := Sl.Sep.put (r' := boxR w2x.heap.size 141 #[.int .u8 y0, .int .u8 y1, .int .u8 y2, .int .u8 y3, .int .u8 y4, .int .u8 y5]) S9x 2 rfl ht hr (fun b hb => hb)
                      clear ht hr
                      refine hK.out _ _ ⟨(box3 S10x 0 rfl).2.1, (box3 S10x 1 rfl).2.1⟩ (fun hS => ?_)
                      clear hK K
                      try simp only [zp0, zp1, zp2, zp3, zp4]
                      refine wpAnyH_done (by kernel_rfl) ?_ _
                      go_wp2_with fail
                      go_meet
                      case rel => exact ⟨_, _, rfl, rfl, And.intro (box_at S10x 3 rfl) (And.intro (box_at S10x 2 rfl) (sep_two S10x))⟩
                    exact AllReadyH.nil
                  exact AllReadyH.nil
                exact AllReadyH.nil
              exact AllReadyH.nil
            refine AllReadyH.cons rfl (fun K hK => ?_) ?_
            · have S11x := push_box S1x 141 #[.int .u8 0, .int .u8 0, .int .u8 0, .int .u8 0, .int .u8 0, .int .u8 0] w1x.heap.size rfl
              go_simp
              refine hK.out _ _ ⟨(box3 S11x 0 rfl).2.1, (box3 S11x 1 rfl).2.1⟩ (fun hS => ?_)
              clear hK K
              try simp only [zp0, zp1, zp2, zp3, zp4]
              generalize w1x.alloc (.cells #[.int .u8 0, .int .u8 0, .int .u8 0, .int .u8 0, .int .u8 0, .int .u8 0] 141) = w11x at hS S11x ⊢
              refine wpAnyH_ready (rs := [5, 7]) (by kernel_rfl) (by simp) ?_
              refine AllReadyH.cons rfl (fun K hK => ?_) ?_
              · go_simp
                go_at_call 122
                refine (HB.out _).mono ?_
                rintro e w12x ⟨rfl, hb⟩
                have S12x := Sl.Sep.keep S11x hb
                clear hb S11x
                go_wp2_with fail
                refine hK.out _ _ ⟨(box3 S12x 0 rfl).2.1, (box3 S12x 1 rfl).2.1⟩ (fun hS => ?_)
                clear hK K
                try simp only [zp0, zp1, zp2, zp3, zp4]
                refine wpAnyH_ready (rs := [7]) (by kernel_rfl) (by simp) ?_
                refine AllReadyH.cons rfl (fun K hK => ?_) ?_
                · have S13x := push_box S12x 141 #[.int .u8 0, .int .u8 0, .int .u8 0, .int .u8 0, .int .u8 0, .int .u8 0] w12x.heap.size rfl
                  go_simp
                  refine hK.out _ _ ⟨(box3 S13x 0 rfl).2.1, (box3 S13x 1 rfl).2.1⟩ (fun hS => ?_)
                  clear hK K
                  try simp only [zp0, zp1, zp2, zp3, zp4]
                  generalize w12x.alloc (.cells #[.int .u8 0, .int .u8 0, .int .u8 0, .int .u8 0, .int .u8 0, .int .u8 0] 141) = w13x at hS S13x ⊢
                  refine wpAnyH_ready (rs := [8]) (by kernel_rfl) (by simp) ?_
                  refine AllReadyH.cons rfl (fun K hK => ?_) ?_
                  · refine step_store_box rfl 141 (.tmp 5) (.tmp 27) rfl w1x.heap.size 141 #[.int .u8 0, .int .u8 0, .int .u8 0, .int .u8 0, .int .u8 0, .int .u8 0] #[.int .u8 x0, .int .u8 x1, .int .u8 x2, .int .u8 x3, .int .u8 x4, .int .u8 x5] rfl rfl (box_at S13x 2 rfl) (by kernel_rfl) rfl (by simp [Value.oneCell']) ?_
                    intro w14x ht hr
                    have S14x := Sl.Sep.put (r' := boxR w1x.heap.size 141 #[.int .u8 x0, .int .u8 x1, .int .u8 x2, .int .u8 x3, .int .u8 x4, .int .u8 x5]) S13x 2 rfl ht hr (fun b hb => hb)
                    clear ht hr
                    refine hK.out _ _ ⟨(box3 S14x 0 rfl).2.1, (box3 S14x 1 rfl).2.1⟩ (fun hS => ?_)
                    clear hK K
                    try simp only [zp0, zp1, zp2, zp3, zp4]
                    refine wpAnyH_ready (rs := [9]) (by kernel_rfl) (by simp) ?_
                    refine AllReadyH.cons rfl (fun K hK => ?_) ?_
                    · refine step_store_box rfl 141 (.tmp 6) (.tmp 30) rfl w12x.heap.size 141 #[.int .u8 0, .int .u8 0, .int .u8 0, .int .u8 0, .int .u8 0, .int .u8 0] #[.int .u8 y0, .int .u8 y1, .int .u8 y2, .int .u8 y3, .int .u8 y4, .int .u8 y5] rfl rfl (box_at S14x 3 rfl) (by kernel_rfl) rfl (by simp [Value.oneCell']) ?_
                      intro w15x ht hr
                      have S15x := Sl.Sep.put (r' := boxR w12x.heap.size 141 #[.int .u8 y0, .int .u8 y1, .int .u8 y2, .int .u8 y3, .int .u8 y4, .int .u8 y5]) S14x 3 rfl ht hr (fun b hb => hb)
                      clear ht hr
                      refine hK.out _ _ ⟨(box3 S15x 0 rfl).2.1, (box3 S15x 1 rfl).2.1⟩ (fun hS => ?_)
                      clear hK K
                      try simp only [zp0, zp1, zp2, zp3, zp4]
                      refine wpAnyH_done (by kernel_rfl) ?_ _
                      go_wp2_with fail
                      go_meet
                      case rel => exact ⟨_, _, rfl, rfl, And.intro (box_at S15x 2 rfl) (And.intro (box_at S15x 3 rfl) (sep_two S15x))⟩
                    exact AllReadyH.nil
                  exact AllReadyH.nil
                exact AllReadyH.nil
              refine AllReadyH.cons rfl (fun K hK => ?_) ?_
              · have S16x := push_box S11x 141 #[.int .u8 0, .int .u8 0, .int .u8 0, .int .u8 0, .int .u8 0, .int .u8 0] w11x.heap.size rfl
                go_simp
                refine hK.out _ _ ⟨(box3 S16x 0 rfl).2.1, (box3 S16x 1 rfl).2.1⟩ (fun hS => ?_)
                clear hK K
                try simp only [zp0, zp1, zp2, zp3, zp4]
                generalize w11x.alloc (.cells #[.int .u8 0, .int .u8 0, .int .u8 0, .int .u8 0, .int .u8 0, .int .u8 0] 141) = w16x at hS S16x ⊢
                refine wpAnyH_ready (rs := [5]) (by kernel_rfl) (by simp) ?_
                refine AllReadyH.cons rfl (fun K hK => ?_) ?_
                · go_simp
                  go_at_call 122
                  refine (HB.out _).mono ?_
                  rintro e w17x ⟨rfl, hb⟩
                  have S17x := Sl.Sep.keep S16x hb
                  clear hb S16x
                  go_wp2_with fail
                  refine hK.out _ _ ⟨(box3 S17x 0 rfl).2.1, (box3 S17x 1 rfl).2.1⟩ (fun hS => ?_)
                  clear hK K
                  try simp only [zp0, zp1, zp2, zp3, zp4]
                  refine wpAnyH_ready (rs := [8]) (by kernel_rfl) (by simp) ?_
                  refine AllReadyH.cons rfl (fun K hK => ?_) ?_
                  · refine step_store_box rfl 141 (.tmp 5) (.tmp 27) rfl w1x.heap.size 141 #[.int .u8 0, .int .u8 0, .int .u8 0, .int .u8 0, .int .u8 0, .int .u8 0] #[.int .u8 x0, .int .u8 x1, .int .u8 x2, .int .u8 x3, .int .u8 x4, .int .u8 x5] rfl rfl (box_at S17x 2 rfl) (by kernel_rfl) rfl (by simp [Value.oneCell']) ?_
                    intro w18x ht hr
                    have S18x := Sl.Sep.put (r' := boxR w1x.heap.size 141 #[.int .u8 x0, .int .u8 x1, .int .u8 x2, .int .u8 x3, .int .u8 x4, .int .u8 x5]) S17x 2 rfl ht hr (fun b hb => hb)
                    clear ht hr
                    refine hK.out _ _ ⟨(box3 S18x 0 rfl).2.1, (box3 S18x 1 rfl).2.1⟩ (fun hS => ?_)
                    clear hK K
                    try simp only [zp0, zp1, zp2, zp3, zp4]
                    refine wpAnyH_ready (rs := [9]) (by kernel_rfl) (by simp) ?_
                    refine AllReadyH.cons rfl (fun K hK => ?_) ?_
                    · refine step_store_box rfl 141 (.tmp 6) (.tmp 30) rfl w11x.heap.size 141 #[.int .u8 0, .int .u8 0, .int .u8 0, .int .u8 0, .int .u8 0, .int .u8 0] #[.int .u8 y0, .int .u8 y1, .int .u8 y2, .int .u8 y3, .int .u8 y4, .int .u8 y5] rfl rfl (box_at S18x 3 rfl) (by kernel_rfl) rfl (by simp [Value.oneCell']) ?_
                      intro w19x ht hr
                      have S19x := Sl.Sep.put (r' := boxR w11x.heap.size 141 #[.int .u8 y0, .int .u8 y1, .int .u8 y2, .int .u8 y3, .int .u8 y4, .int .u8 y5]) S18x 3 rfl ht hr (fun b hb => hb)
                      clear ht hr
                      refine hK.out _ _ ⟨(box3 S19x 0 rfl).2.1, (box3 S19x 1 rfl).2.1⟩ (fun hS => ?_)
                      clear hK K
                      try simp only [zp0, zp1, zp2, zp3, zp4]
                      refine wpAnyH_done (by kernel_rfl) ?_ _
                      go_wp2_with fail
                      go_meet
                      case rel => exact ⟨_, _, rfl, rfl, And.intro (box_at S19x 2 rfl) (And.intro (box_at S19x 3 rfl) (sep_two S19x))⟩
                    exact AllReadyH.nil
                  exact AllReadyH.nil
                exact AllReadyH.nil
              exact AllReadyH.nil
            refine AllReadyH.cons rfl (fun K hK => ?_) ?_
            · have S20x := push_box S1x 141 #[.int .u8 0, .int .u8 0, .int .u8 0, .int .u8 0, .int .u8 0, .int .u8 0] w1x.heap.size rfl
              go_simp
              refine hK.out _ _ ⟨(box3 S20x 0 rfl).2.1, (box3 S20x 1 rfl).2.1⟩ (fun hS => ?_)
              clear hK K
              try simp only [zp0, zp1, zp2, zp3, zp4]
              generalize w1x.alloc (.cells #[.int .u8 0, .int .u8 0, .int .u8 0, .int .u8 0, .int .u8 0, .int .u8 0] 141) = w20x at hS S20x ⊢
              refine wpAnyH_ready (rs := [5, 6]) (by kernel_rfl) (by simp) ?_
              refine AllReadyH.cons rfl (fun K hK => ?_) ?_
              · go_simp
                go_at_call 122
                refine (HB.out _).mono ?_
                rintro e w21x ⟨rfl, hb⟩
                have S21x := Sl.Sep.keep S20x hb
                clear hb S20x
                go_wp2_with fail
                refine hK.out _ _ ⟨(box3 S21x 0 rfl).2.1, (box3 S21x 1 rfl).2.1⟩ (fun hS => ?_)
                clear hK K
                try simp only [zp0, zp1, zp2, zp3, zp4]
                refine wpAnyH_ready (rs := [6]) (by kernel_rfl) (by simp) ?_
                refine AllReadyH.cons rfl (fun K hK => ?_) ?_
                · have S22x := push_box S21x 141 #[.int .u8 0, .int .u8 0, .int .u8 0, .int .u8 0, .int .u8 0, .int .u8 0] w21x.heap.size rfl
                  go_simp
                  refine hK.out _ _ ⟨(box3 S22x 0 rfl).2.1, (box3 S22x 1 rfl).2.1⟩ (fun hS => ?_)
                  clear hK K
                  try simp only [zp0, zp1, zp2, zp3, zp4]
                  generalize w21x.alloc (.cells #[.int .u8 0, .int .u8 0, .int .u8 0, .int .u8 0, .int .u8 0, .int .u8 0] 141) = w22x at hS S22x ⊢
                  refine wpAnyH_ready (rs := [8]) (by kernel_rfl) (by simp) ?_
                  refine AllReadyH.cons rfl (fun K hK => ?_) ?_
                  · refine step_store_box rfl 141 (.tmp 5) (.tmp 27) rfl w21x.heap.size 141 #[.int .u8 0, .int .u8 0, .int .u8 0, .int .u8 0, .int .u8 0, .int .u8 0] #[.int .u8 x0, .int .u8 x1, .int .u8 x2, .int .u8 x3, .int .u8 x4, .int .u8 x5] rfl rfl (box_at S22x 3 rfl) (by kernel_rfl) rfl (by simp [Value.oneCell']) ?_
                    intro w23x ht hr
                    have S23x := Sl.Sep.put (r' := boxR w21x.heap.size 141 #[.int .u8 x0, .int .u8 x1, .int .u8 x2, .int .u8 x3, .int .u8 x4, .int .u8 x5]) S22x 3 rfl ht hr (fun b hb => hb)
                    clear ht hr
                    refine hK.out _ _ ⟨(box3 S23x 0 rfl).2.1, (box3 S23x 1 rfl).2.1⟩ (fun hS => ?_)
                    clear hK K
                    try simp only [zp0, zp1, zp2, zp3, zp4]
                    refine wpAnyH_ready (rs := [9]) (by kernel_rfl) (by simp) ?_
                    refine AllReadyH.cons rfl (fun K hK => ?_) ?_
                    · refine step_store_box rfl 141 (.tmp 6) (.tmp 30) rfl w1x.heap.size 141 #[.int .u8 0, .int .u8 0, .int .u8 0, .int .u8 0, .int .u8 0, .int .u8 0] #[.int .u8 y0, .int .u8 y1, .int .u8 y2, .int .u8 y3, .int .u8 y4, .int .u8 y5] rfl rfl (box_at S23x 2 rfl) (by kernel_rfl) rfl (by simp [Value.oneCell']) ?_
                      intro w24x ht hr
                      have S24x := Sl.Sep.put (r' := boxR w1x.heap.size 141 #[.int .u8 y0, .int .u8 y1, .int .u8 y2, .int .u8 y3, .int .u8 y4, .int .u8 y5]) S23x 2 rfl ht hr (fun b hb => hb)
                      clear ht hr
                      refine hK.out _ _ ⟨(box3 S24x 0 rfl).2.1, (box3 S24x 1 rfl).2.1⟩ (fun hS => ?_)
                      clear hK K
                      try simp only [zp0, zp1, zp2, zp3, zp4]
                      refine wpAnyH_done (by kernel_rfl) ?_ _
                      go_wp2_with fail
                      go_meet
                      case rel => exact ⟨_, _, rfl, rfl, And.intro (box_at S24x 3 rfl) (And.intro (box_at S24x 2 rfl) (sep_two S24x))⟩
                    exact AllReadyH.nil
                  exact AllReadyH.nil
                exact AllReadyH.nil
              refine AllReadyH.cons rfl (fun K hK => ?_) ?_
              · have S25x := push_box S20x 141 #[.int .u8 0, .int .u8 0, .int .u8 0, .int .u8 0, .int .u8 0, .int .u8 0] w20x.heap.size rfl
                go_simp
                refine hK.out _ _ ⟨(box3 S25x 0 rfl).2.1, (box3 S25x 1 rfl).2.1⟩ (fun hS => ?_)
                clear hK K
                try simp only [zp0, zp1, zp2, zp3, zp4]
                generalize w20x.alloc (.cells #[.int .u8 0, .int .u8 0, .int .u8 0, .int .u8 0, .int .u8 0, .int .u8 0] 141) = w25x at hS S25x ⊢
                refine wpAnyH_ready (rs := [5]) (by kernel_rfl) (by simp) ?_
                refine AllReadyH.cons rfl (fun K hK => ?_) ?_
                · go_simp
                  go_at_call 122
                  refine (HB.out _).mono ?_
                  rintro e w26x ⟨rfl, hb⟩
                  have S26x := Sl.Sep.keep S25x hb
                  clear hb S25x
                  go_wp2_with fail
                  refine hK.out _ _ ⟨(box3 S26x 0 rfl).2.1, (box3 S26x 1 rfl).2.1⟩ (fun hS => ?_)
                  clear hK K
                  try simp only [zp0, zp1, zp2, zp3, zp4]
                  refine wpAnyH_ready (rs := [8]) (by kernel_rfl) (by simp) ?_
                  refine AllReadyH.cons rfl (fun K hK => ?_) ?_
                  · refine step_store_box rfl 141 (.tmp 5) (.tmp 27) rfl w20x.heap.size 141 #[.int .u8 0, .int .u8 0, .int .u8 0, .int .u8 0, .int .u8 0, .int .u8 0] #[.int .u8 x0, .int .u8 x1, .int .u8 x2, .int .u8 x3, .int .u8 x4, .int .u8 x5] rfl rfl (box_at S26x 3 rfl) (by kernel_rfl) rfl (by simp [Value.oneCell']) ?_
                    intro w27x ht hr
                    have S27x := Sl.Sep.put (r' := boxR w20x.heap.size 141 #[.int .u8 x0, .int .u8 x1, .int .u8 x2, .int .u8 x3, .int .u8 x4, .int .u8 x5]) S26x 3 rfl ht hr (fun b hb => hb)
                    clear ht hr
                    refine hK.out _ _ ⟨(box3 S27x 0 rfl).2.1, (box3 S27x 1 rfl).2.1⟩ (fun hS => ?_)
                    clear hK K
                    try simp only [zp0, zp1, zp2, zp3, zp4]
                    refine wpAnyH_ready (rs := [9]) (by kernel_rfl) (by simp) ?_
                    refine AllReadyH.cons rfl (fun K hK => ?_) ?_
                    · refine step_store_box rfl 141 (.tmp 6) (.tmp 30) rfl w1x.heap.size 141 #[.int .u8 0, .int .u8 0, .int .u8 0, .int .u8 0, .int .u8 0, .int .u8 0] #[.int .u8 y0, .int .u8 y1, .int .u8 y2, .int .u8 y3, .int .u8 y4, .int .u8 y5] rfl rfl (box_at S27x 2 rfl) (by kernel_rfl) rfl (by simp [Value.oneCell']) ?_
                      intro w28x ht hr
                      have S28x := Sl.Sep.put (r' := boxR w1x.heap.size 141 #[.int .u8 y0, .int .u8 y1, .int .u8 y2, .int .u8 y3, .int .u8 y4, .int .u8 y5]) S27x 2 rfl ht hr (fun b hb => hb)
                      clear ht hr
                      refine hK.out _ _ ⟨(box3 S28x 0 rfl).2.1, (box3 S28x 1 rfl).2.1⟩ (fun hS => ?_)
                      clear hK K
                      try simp only [zp0, zp1, zp2, zp3, zp4]
                      refine wpAnyH_done (by kernel_rfl) ?_ _
                      go_wp2_with fail
                      go_meet
                      case rel => exact ⟨_, _, rfl, rfl, And.intro (box_at S28x 3 rfl) (And.intro (box_at S28x 2 rfl) (sep_two S28x))⟩
                    exact AllReadyH.nil
                  exact AllReadyH.nil
                exact AllReadyH.nil
              exact AllReadyH.nil
            exact AllReadyH.nil
          refine AllReadyH.cons rfl (fun K hK => ?_) ?_
          · have S29x := push_box S4d 141 #[.int .u8 0, .int .u8 0, .int .u8 0, .int .u8 0, .int .u8 0, .int .u8 0] wd.heap.size rfl
            go_simp
            refine hK.out _ _ ⟨(box3 S29x 0 rfl).2.1, (box3 S29x 1 rfl).2.1⟩ (fun hS => ?_)
            clear hK K
            try simp only [zp0, zp1, zp2, zp3, zp4]
            generalize wd.alloc (.cells #[.int .u8 0, .int .u8 0, .int .u8 0, .int .u8 0, .int .u8 0, .int .u8 0] 141) = w29x at hS S29x ⊢
            refine wpAnyH_ready (rs := [2, 7]) (by kernel_rfl) (by simp) ?_
            refine AllReadyH.cons rfl (fun K hK => ?_) ?_
            · go_simp
              go_at_call 122
              refine (HA.out _).mono ?_
              rintro e w30x ⟨rfl, hb⟩
              have S30x := Sl.Sep.keep S29x hb
              clear hb S29x
              go_wp2_with fail
              refine hK.out _ _ ⟨(box3 S30x 0 rfl).2.1, (box3 S30x 1 rfl).2.1⟩ (fun hS => ?_)
              clear hK K
              try simp only [zp0, zp1, zp2, zp3, zp4]
              refine wpAnyH_ready (rs := [5, 7]) (by kernel_rfl) (by simp) ?_
              refine AllReadyH.cons rfl (fun K hK => ?_) ?_
              · go_simp
                go_at_call 122
                refine (HB.out _).mono ?_
                rintro e w31x ⟨rfl, hb⟩
                have S31x := Sl.Sep.keep S30x hb
                clear hb S30x
                go_wp2_with fail
                refine hK.out _ _ ⟨(box3 S31x 0 rfl).2.1, (box3 S31x 1 rfl).2.1⟩ (fun hS => ?_)
                clear hK K
                try simp only [zp0, zp1, zp2, zp3, zp4]
                refine wpAnyH_ready (rs := [7]) (by kernel_rfl) (by simp) ?_
                refine AllReadyH.cons rfl (fun K hK => ?_) ?_
                · have S32x := push_box S31x 141 #[.int .u8 0, .int .u8 0, .int .u8 0, .int .u8 0, .int .u8 0, .int .u8 0] w31x.heap.size rfl
                  go_simp
                  refine hK.out _ _ ⟨(box3 S32x 0 rfl).2.1, (box3 S32x 1 rfl).2.1⟩ (fun hS => ?_)
                  clear hK K
                  try simp only [zp0, zp1, zp2, zp3, zp4]
                  generalize w31x.alloc (.cells #[.int .u8 0, .int .u8 0, .int .u8 0, .int .u8 0, .int .u8 0, .int .u8 0] 141) = w32x at hS S32x ⊢
                  refine wpAnyH_ready (rs := [8]) (by kernel_rfl) (by simp) ?_
                  refine AllReadyH.cons rfl (fun K hK => ?_) ?_
                  · refine step_store_box rfl 141 (.tmp 5) (.tmp 27) rfl wd.heap.size 141 #[.int .u8 0, .int .u8 0, .int .u8 0, .int .u8 0, .int .u8 0, .int .u8 0] #[.int .u8 x0, .int .u8 x1, .int .u8 x2, .int .u8 x3, .int .u8 x4, .int .u8 x5] rfl rfl (box_at S32x 2 rfl) (by kernel_rfl) rfl (by simp [Value.oneCell']) ?_
                    intro w33x ht hr
                    have S33x := Sl.Sep.put (r' := boxR wd.heap.size 141 #[.int .u8 x0, .int .u8 x1, .int .u8 x2, .int .u8 x3, .int .u8 x4, .int .u8 x5]) S32x 2 rfl ht hr (fun b hb => hb)
                    clear ht hr
                    refine hK.out _ _ ⟨(box3 S33x 0 rfl).2.1, (box3 S33x 1 rfl).2.1⟩ (fun hS => ?_)
                    clear hK K
                    try simp only [zp0, zp1, zp2, zp3, zp4]
                    refine wpAnyH_ready (rs := [9]) (by kernel_rfl) (by simp) ?_
                    refine AllReadyH.cons rfl (fun K hK => ?_) ?_
                    · refine step_store_box rfl 141 (.tmp 6) (.tmp 30) rfl w31x.heap.size 141 #[.int .u8 0, .int .u8 0, .int .u8 0, .int .u8 0, .int .u8 0, .int .u8 0] #[.int .u8 y0, .int .u8 y1, .int .u8 y2, .int .u8 y3, .int .u8 y4, .int .u8 y5] rfl rfl (box_at S33x 3 rfl) (by kernel_rfl) rfl (by simp [Value.oneCell']) ?_
                      intro w34x ht hr
                      have S34x := Sl.Sep.put (r' := boxR w31x.heap.size 141 #[.int .u8 y0, .int .u8 y1, .int .u8 y2, .int .u8 y3, .int .u8 y4, .int .u8 y5]) S33x 3 rfl ht hr (fun b hb => hb)
                      clear ht hr
                      refine hK.out _ _ ⟨(box3 S34x 0 rfl).2.1, (box3 S34x 1 rfl).2.1⟩ (fun hS => ?_)
                      clear hK K
                      try simp only [zp0, zp1, zp2, zp3, zp4]
                      refine wpAnyH_done (by kernel_rfl) ?_ _
                      go_wp2_with fail
                      go_meet
                      case rel => exact ⟨_, _, rfl, rfl, And.intro (box_at S34x 2 rfl) (And.intro (box_at S34x 3 rfl) (sep_two S34x))⟩
                    exact AllReadyH.nil
                  exact AllReadyH.nil
                exact AllReadyH.nil
              refine AllReadyH.cons rfl (fun K hK => ?_) ?_
              · have S35x := push_box S30x 141 #[.int .u8 0, .int .u8 0, .int .u8 0, .int .u8 0, .int .u8 0, .int .u8 0] w30x.heap.size rfl
                go_simp
                refine hK.out _ _ ⟨(box3 S35x 0 rfl).2.1, (box3 S35x 1 rfl).2.1⟩ (fun hS => ?_)
                clear hK K
                try simp only [zp0, zp1, zp2, zp3, zp4]
                generalize w30x.alloc (.cells #[.int .u8 0, .int .u8 0, .int .u8 0, .int .u8 0, .int .u8 0, .int .u8 0] 141) = w35x at hS S35x ⊢
                refine wpAnyH_ready (rs := [5]) (by kernel_rfl) (by simp) ?_
                refine AllReadyH.cons rfl (fun K hK => ?_) ?_
                · go_simp
                  go_at_call 122
                  refine (HB.out _).mono ?_
                  rintro e w36x ⟨rfl, hb⟩
                  have S36x := Sl.Sep.keep S35x hb
                  clear hb S35x
                  go_wp2_with fail
                  refine hK.out _ _ ⟨(box3 S36x 0 rfl).2.1, (box3 S36x 1 rfl).2.1⟩ (fun hS => ?_)
                  clear hK K
                  try simp only [zp0, zp1, zp2, zp3, zp4]
                  refine wpAnyH_ready (rs := [8]) (by kernel_rfl) (by simp) ?_
                  refine AllReadyH.cons rfl (fun K hK => ?_) ?_
                  · refine step_store_box rfl 141 (.tmp 5) (.tmp 27) rfl wd.heap.size 141 #[.int .u8 0, .int .u8 0, .int .u8 0, .int .u8 0, .int .u8 0, .int .u8 0] #[.int .u8 x0, .int .u8 x1, .int .u8 x2, .int .u8 x3, .int .u8 x4, .int .u8 x5] rfl rfl (box_at S36x 2 rfl) (by kernel_rfl) rfl (by simp [Value.oneCell']) ?_
                    intro w37x ht hr
                    have S37x := Sl.Sep.put (r' := boxR wd.heap.size 141 #[.int .u8 x0, .int .u8 x1, .int .u8 x2, .int .u8 x3, .int .u8 x4, .int .u8 x5]) S36x 2 rfl ht hr (fun b hb => hb)
                    clear ht hr
                    refine hK.out _ _ ⟨(box3 S37x 0 rfl).2.1, (box3 S37x 1 rfl).2.1⟩ (fun hS => ?_)
                    clear hK K
                    try simp only [zp0, zp1, zp2, zp3, zp4]
                    refine wpAnyH_ready (rs := [9]) (by kernel_rfl) (by simp) ?_
                    refine AllReadyH.cons rfl (fun K hK => ?_) ?_
                    · refine step_store_box rfl 141 (.tmp 6) (.tmp 30) rfl w30x.heap.size 141 #[.int .u8 0, .int .u8 0, .int .u8 0, .int .u8 0, .int .u8 0, .int .u8 0] #[.int .u8 y0, .int .u8 y1, .int .u8 y2, .int .u8 y3, .int .u8 y4, .int .u8 y5] rfl rfl (box_at S37x 3 rfl) (by kernel_rfl) rfl (by simp [Value.oneCell']) ?_
                      intro w38x ht hr
                      have S38x := Sl.Sep.put (r' := boxR w30x.heap.size 141 #[.int .u8 y0, .int .u8 y1, .int .u8 y2, .int .u8 y3, .int .u8 y4, .int .u8 y5]) S37x 3 rfl ht hr (fun b hb => hb)
                      clear ht hr
                      refine hK.out _ _ ⟨(box3 S38x 0 rfl).2.1, (box3 S38x 1 rfl).2.1⟩ (fun hS => ?_)
                      clear hK K
                      try simp only [zp0, zp1, zp2, zp3, zp4]
                      refine wpAnyH_done (by kernel_rfl) ?_ _
                      go_wp2_with fail
                      go_meet
                      case rel => exact ⟨_, _, rfl, rfl, And.intro (box_at S38x 2 rfl) (And.intro (box_at S38x 3 rfl) (sep_two S38x))⟩
                    exact AllReadyH.nil
                  exact AllReadyH.nil
                exact AllReadyH.nil
              exact AllReadyH.nil
            refine AllReadyH.cons rfl (fun K hK => ?_) ?_
            · have S39x := push_box S29x 141 #[.int .u8 0, .int .u8 0, .int .u8 0, .int .u8 0, .int .u8 0, .int .u8 0] w29x.heap.size rfl
              go_simp
              refine hK.out _ _ ⟨(box3 S39x 0 rfl).2.1, (box3 S39x 1 rfl).2.1⟩ (fun hS => ?_)
              clear hK K
              try simp only [zp0, zp1, zp2, zp3, zp4]
              generalize w29x.alloc (.cells #[.int .u8 0, .int .u8 0, .int .u8 0, .int .u8 0, .int .u8 0, .int .u8 0] 141) = w39x at hS S39x ⊢
              refine wpAnyH_ready (rs := [2]) (by kernel_rfl) (by simp) ?_
              refine AllReadyH.cons rfl (fun K hK => ?_) ?_
              · go_simp
                go_at_call 122
                refine (HA.out _).mono ?_
                rintro e w40x ⟨rfl, hb⟩
                have S40x := Sl.Sep.keep S39x hb
                clear hb S39x
                go_wp2_with fail
                refine hK.out _ _ ⟨(box3 S40x 0 rfl).2.1, (box3 S40x 1 rfl).2.1⟩ (fun hS => ?_)
                clear hK K
                try simp only [zp0, zp1, zp2, zp3, zp4]
                refine wpAnyH_ready (rs := [5]) (by kernel_rfl) (by simp) ?_
                refine AllReadyH.cons rfl (fun K hK => ?_) ?_
                · go_simp
                  go_at_call 122
                  refine (HB.out _).mono ?_
                  rintro e w41x ⟨rfl, hb⟩
                  have S41x := Sl.Sep.keep S40x hb
                  clear hb S40x
                  go_wp2_with fail
                  refine hK.out _ _ ⟨(box3 S41x 0 rfl).2.1, (box3 S41x 1 rfl).2.1⟩ (fun hS => ?_)
                  clear hK K
                  try simp only [zp0, zp1, zp2, zp3, zp4]
                  refine wpAnyH_ready (rs := [8]) (by kernel_rfl) (by simp) ?_
                  refine AllReadyH.cons rfl (fun K hK => ?_) ?_
                  · refine step_store_box rfl 141 (.tmp 5) (.tmp 27) rfl wd.heap.size 141 #[.int .u8 0, .int .u8 0, .int .u8 0, .int .u8 0, .int .u8 0, .int .u8 0] #[.int .u8 x0, .int .u8 x1, .int .u8 x2, .int .u8 x3, .int .u8 x4, .int .u8 x5] rfl rfl (box_at S41x 2 rfl) (by kernel_rfl) rfl (by simp [Value.oneCell']) ?_
                    intro w42x ht hr
                    have S42x := Sl.Sep.put (r' := boxR wd.heap.size 141 #[.int .u8 x0, .int .u8 x1, .int .u8 x2, .int .u8 x3, .int .u8 x4, .int .u8 x5]) S41x 2 rfl ht hr (fun b hb => hb)
                    clear ht hr
                    refine hK.out _ _ ⟨(box3 S42x 0 rfl).2.1, (box3 S42x 1 rfl).2.1⟩ (fun hS => ?_)
                    clear hK K
                    try simp only [zp0, zp1, zp2, zp3, zp4]
                    refine wpAnyH_ready (rs := [9]) (by kernel_rfl) (by simp) ?_
                    refine AllReadyH.cons rfl (fun K hK => ?_) ?_
                    · refine step_store_box rfl 141 (.tmp 6) (.tmp 30) rfl w29x.heap.size 141 #[.int .u8 0, .int .u8 0, .int .u8 0, .int .u8 0, .int .u8 0, .int .u8 0] #[.int .u8 y0, .int .u8 y1, .int .u8 y2, .int .u8 y3, .int .u8 y4, .int .u8 y5] rfl rfl (box_at S42x 3 rfl) (by kernel_rfl) rfl (by simp [Value.oneCell']) ?_
                      intro w43x ht hr
                      have S43x := Sl.Sep.put (r' := boxR w29x.heap.size 141 #[.int .u8 y0, .int .u8 y1, .int .u8 y2, .int .u8 y3, .int .u8 y4, .int .u8 y5]) S42x 3 rfl ht hr (fun b hb => hb)
                      clear ht hr
                      refine hK.out _ _ ⟨(box3 S43x 0 rfl).2.1, (box3 S43x 1 rfl).2.1⟩ (fun hS => ?_)
                      clear hK K
                      try simp only [zp0, zp1, zp2, zp3, zp4]
                      refine wpAnyH_done (by kernel_rfl) ?_ _
                      go_wp2_with fail
                      go_meet
                      case rel => exact ⟨_, _, rfl, rfl, And.intro (box_at S43x 2 rfl) (And.intro (box_at S43x 3 rfl) (sep_two S43x))⟩
                    exact AllReadyH.nil
                  exact AllReadyH.nil
                exact AllReadyH.nil
              exact AllReadyH.nil
            exact AllReadyH.nil
          refine AllReadyH.cons rfl (fun K hK => ?_) ?_
          · have S44x := push_box S4d 141 #[.int .u8 0, .int .u8 0, .int .u8 0, .int .u8 0, .int .u8 0, .int .u8 0] wd.heap.size rfl
            go_simp
            refine hK.out _ _ ⟨(box3 S44x 0 rfl).2.1, (box3 S44x 1 rfl).2.1⟩ (fun hS => ?_)
            clear hK K
            try simp only [zp0, zp1, zp2, zp3, zp4]
            generalize wd.alloc (.cells #[.int .u8 0, .int .u8 0, .int .u8 0, .int .u8 0, .int .u8 0, .int .u8 0] 141) = w44x at hS S44x ⊢
            refine wpAnyH_ready (rs := [2, 6]) (by kernel_rfl) (by simp) ?_
            refine AllReadyH.cons rfl (fun K hK => ?_) ?_
            · go_simp
              go_at_call 122
              refine (HA.out _).mono ?_
              rintro e w45x ⟨rfl, hb⟩
              have S45x := Sl.Sep.keep S44x hb
              clear hb S44x
              go_wp2_with fail
              refine hK.out _ _ ⟨(box3 S45x 0 rfl).2.1, (box3 S45x 1 rfl).2.1⟩ (fun hS => ?_)
              clear hK K
              try simp only [zp0, zp1, zp2, zp3, zp4]
              refine wpAnyH_ready (rs := [5, 6]) (by kernel_rfl) (by simp) ?_
              refine AllReadyH.cons rfl (fun K hK => ?_) ?_
              · go_simp
                go_at_call 122
                refine (HB.out _).mono ?_
                rintro e w46x ⟨rfl, hb⟩
                have S46x := Sl.Sep.keep S45x hb
                clear hb S45x
                go_wp2_with fail
                refine hK.out _ _ ⟨(box3 S46x 0 rfl).2.1, (box3 S46x 1 rfl).2.1⟩ (fun hS => ?_)
                clear hK K
                try simp only [zp0, zp1, zp2, zp3, zp4]
                refine wpAnyH_ready (rs := [6]) (by kernel_rfl) (by simp) ?_
                refine AllReadyH.cons rfl (fun K hK => ?_) ?_
                · have S47x := push_box S46x 141 #[.int .u8 0, .int .u8 0, .int .u8 0, .int .u8 0, .int .u8 0, .int .u8 0] w46x.heap.size rfl
                  go_simp
                  refine hK.out _ _ ⟨(box3 S47x 0 rfl).2.1, (box3 S47x 1 rfl).2.1⟩ (fun hS => ?_)
                  clear hK K
                  try simp only [zp0, zp1, zp2, zp3, zp4]
                  generalize w46x.alloc (.cells #[.int .u8 0, .int .u8 0, .int .u8 0, .int .u8 0, .int .u8 0, .int .u8 0] 141) = w47x at hS S47x ⊢
                  refine wpAnyH_ready (rs := [8]) (by kernel_rfl) (by simp) ?_
                  refine AllReadyH.cons rfl (fun K hK => ?_) ?_
                  · refine step_store_box rfl 141 (.tmp 5) (.tmp 27) rfl w46x.heap.size 141 #[.int .u8 0, .int .u8 0, .int .u8 0, .int .u8 0, .int .u8 0, .int .u8 0] #[.int .u8 x0, .int .u8 x1, .int .u8 x2, .int .u8 x3, .int .u8 x4, .int .u8 x5] rfl rfl (box_at S47x 3 rfl) (by kernel_rfl) rfl (by simp [Value.oneCell']) ?_
                    intro w48x ht hr
                    have S48x := Sl.Sep.put (r' := boxR w46x.heap.size 141 #[.int .u8 x0, .int .u8 x1, .int .u8 x2, .int .u8 x3, .int .u8 x4, .int .u8 x5]) S47x 3 rfl ht hr (fun b hb => hb)
                    clear ht hr
                    refine hK.out _ _ ⟨(box3 S48x 0 rfl).2.1, (box3 S48x 1 rfl).2.1⟩ (fun hS => ?_)
                    clear hK K
                    try simp only [zp0, zp1, zp2, zp3, zp4]
                    refine wpAnyH_ready (rs := [9]) (by kernel_rfl) (by simp) ?_
                    refine AllReadyH.cons rfl (fun K hK => ?_) ?_
                    · refine step_store_box rfl 141 (.tmp 6) (.tmp 30) rfl wd.heap.size 141 #[.int .u8 0, .int .u8 0, .int .u8 0, .int .u8 0, .int .u8 0, .int .u8 0] #[.int .u8 y0, .int .u8 y1, .int .u8 y2, .int .u8 y3, .int .u8 y4, .int .u8 y5] rfl rfl (box_at S48x 2 rfl) (by kernel_rfl) rfl (by simp [Value.oneCell']) ?_
                      intro w49x ht hr
                      have S49x := Sl.Sep.put (r' := boxR wd.heap.size 141 #[.int .u8 y0, .int .u8 y1, .int .u8 y2, .int .u8 y3, .int .u8 y4, .int .u8 y5]) S48x 2 rfl ht hr (fun b hb => hb)
                      clear ht hr
                      refine hK.out _ _ ⟨(box3 S49x 0 rfl).2.1, (box3 S49x 1 rfl).2.1⟩ (fun hS => ?_)
                      clear hK K
                      try simp only [zp0, zp1, zp2, zp3, zp4]
                      refine wpAnyH_done (by kernel_rfl) ?_ _
                      go_wp2_with fail
                      go_meet
                      case rel => exact ⟨_, _, rfl, rfl, And.intro (box_at S49x 3 rfl) (And.intro (box_at S49x 2 rfl) (sep_two S49x))⟩
                    exact AllReadyH.nil
                  exact AllReadyH.nil
                exact AllReadyH.nil
              refine AllReadyH.cons rfl (fun K hK => ?_) ?_
              · have S50x := push_box S45x 141 #[.int .u8 0, .int .u8 0, .int .u8 0, .int .u8 0, .int .u8 0, .int .u8 0] w45x.heap.size rfl
                go_simp
                refine hK.out _ _ ⟨(box3 S50x 0 rfl).2.1, (box3 S50x 1 rfl).2.1⟩ (fun hS => ?_)
                clear hK K
                try simp only [zp0, zp1, zp2, zp3, zp4]
                generalize w45x.alloc (.cells #[.int .u8 0, .int .u8 0, .int .u8 0, .int .u8 0, .int .u8 0, .int .u8 0] 141) = w50x at hS S50x ⊢
                refine wpAnyH_ready (rs := [5]) (by kernel_rfl) (by simp) ?_
                refine AllReadyH.cons rfl (fun K hK => ?_) ?_
                · go_simp
                  go_at_call 122
                  refine (HB.out _).mono ?_
                  rintro e w51x ⟨rfl, hb⟩
                  have S51x := Sl.Sep.keep S50x hb
                  clear hb S50x
                  go_wp2_with fail
                  refine hK.out _ _ ⟨(box3 S51x 0 rfl).2.1, (box3 S51x 1 rfl).2.1⟩ (fun hS => ?_)
                  clear hK K
                  try simp only [zp0, zp1, zp2, zp3, zp4]
                  refine wpAnyH_ready (rs := [8]) (by kernel_rfl) (by simp) ?_
                  refine AllReadyH.cons rfl (fun K hK => ?_) ?_
                  · refine step_store_box rfl 141 (.tmp 5) (.tmp 27) rfl w45x.heap.size 141 #[.int .u8 0, .int .u8 0, .int .u8 0, .int .u8 0, .int .u8 0, .int .u8 0] #[.int .u8 x0, .int .u8 x1, .int .u8 x2, .int .u8 x3, .int .u8 x4, .int .u8 x5] rfl rfl (box_at S51x 3 rfl) (by kernel_rfl) rfl (by simp [Value.oneCell']) ?_
                    intro w52x ht hr
                    have S52x := Sl.Sep.put (r' := boxR w45x.heap.size 141 #[.int .u8 x0, .int .u8 x1, .int .u8 x2, .int .u8 x3, .int .u8 x4, .int .u8 x5]) S51x 3 rfl ht hr (fun b hb => hb)
                    clear ht hr
                    refine hK.out _ _ ⟨(box3 S52x 0 rfl).2.1, (box3 S52x 1 rfl).2.1⟩ (fun hS => ?_)
                    clear hK K
                    try simp only [zp0, zp1, zp2, zp3, zp4]
                    refine wpAnyH_ready (rs := [9]) (by kernel_rfl) (by simp) ?_
                    refine AllReadyH.cons rfl (fun K hK => ?_) ?_
                    · refine step_store_box rfl 141 (.tmp 6) (.tmp 30) rfl wd.heap.size 141 #[.int .u8 0, .int .u8 0, .int .u8 0, .int .u8 0, .int .u8 0, .int .u8 0] #[.int .u8 y0, .int .u8 y1, .int .u8 y2, .int .u8 y3, .int .u8 y4, .int .u8 y5] rfl rfl (box_at S52x 2 rfl) (by kernel_rfl) rfl (by simp [Value.oneCell']) ?_
                      intro w53x ht hr
                      have S53x := Sl.Sep.put (r' := boxR wd.heap.size 141 #[.int .u8 y0, .int .u8 y1, .int .u8 y2, .int .u8 y3, .int .u8 y4, .int .u8 y5]) S52x 2 rfl ht hr (fun b hb => hb)
                      clear ht hr
                      refine hK.out _ _ ⟨(box3 S53x 0 rfl).2.1, (box3 S53x 1 rfl).2.1⟩ (fun hS => ?_)
                      clear hK K
                      try simp only [zp0, zp1, zp2, zp3, zp4]
                      refine wpAnyH_done (by kernel_rfl) ?_ _
                      go_wp2_with fail
                      go_meet
                      case rel => exact ⟨_, _, rfl, rfl, And.intro (box_at S53x 3 rfl) (And.intro (box_at S53x 2 rfl) (sep_two S53x))⟩
                    exact AllReadyH.nil
                  exact AllReadyH.nil
                exact AllReadyH.nil
              exact AllReadyH.nil
            refine AllReadyH.cons rfl (fun K hK => ?_) ?_
            · have S54x := push_box S44x 141 #[.int .u8 0, .int .u8 0, .int .u8 0, .int .u8 0, .int .u8 0, .int .u8 0] w44x.heap.size rfl
              go_simp
              refine hK.out _ _ ⟨(box3 S54x 0 rfl).2.1, (box3 S54x 1 rfl).2.1⟩ (fun hS => ?_)
              clear hK K
              try simp only [zp0, zp1, zp2, zp3, zp4]
              generalize w44x.alloc (.cells #[.int .u8 0, .int .u8 0, .int .u8 0, .int .u8 0, .int .u8 0, .int .u8 0] 141) = w54x at hS S54x ⊢
              refine wpAnyH_ready (rs := [2]) (by kernel_rfl) (by simp) ?_
              refine AllReadyH.cons rfl (fun K hK => ?_) ?_
              · go_simp
                go_at_call 122
                refine (HA.out _).mono ?_
                rintro e w55x ⟨rfl, hb⟩
                have S55x := Sl.Sep.keep S54x hb
                clear hb S54x
                go_wp2_with fail
                refine hK.out _ _ ⟨(box3 S55x 0 rfl).2.1, (box3 S55x 1 rfl).2.1⟩ (fun hS => ?_)
                clear hK K
                try simp only [zp0, zp1, zp2, zp3, zp4]
                refine wpAnyH_ready (rs := [5]) (by kernel_rfl) (by simp) ?_
                refine AllReadyH.cons rfl (fun K hK => ?_) ?_
                · go_simp
                  go_at_call 122
                  refine (HB.out _).mono ?_
                  rintro e w56x ⟨rfl, hb⟩
                  have S56x := Sl.Sep.keep S55x hb
                  clear hb S55x
                  go_wp2_with fail
                  refine hK.out _ _ ⟨(box3 S56x 0 rfl).2.1, (box3 S56x 1 rfl).2.1⟩ (fun hS => ?_)
                  clear hK K
                  try simp only [zp0, zp1, zp2, zp3, zp4]
                  refine wpAnyH_ready (rs := [8]) (by kernel_rfl) (by simp) ?_
                  refine AllReadyH.cons rfl (fun K hK => ?_) ?_
                  · refine step_store_box rfl 141 (.tmp 5) (.tmp 27) rfl w44x.heap.size 141 #[.int .u8 0, .int .u8 0, .int .u8 0, .int .u8 0, .int .u8 0, .int .u8 0] #[.int .u8 x0, .int .u8 x1, .int .u8 x2, .int .u8 x3, .int .u8 x4, .int .u8 x5] rfl rfl (box_at S56x 3 rfl) (by kernel_rfl) rfl (by simp [Value.oneCell']) ?_
                    intro w57x ht hr
                    have S57x := Sl.Sep.put (r' := boxR w44x.heap.size 141 #[.int .u8 x0, .int .u8 x1, .int .u8 x2, .int .u8 x3, .int .u8 x4, .int .u8 x5]) S56x 3 rfl ht hr (fun b hb => hb)
                    clear ht hr
                    refine hK.out _ _ ⟨(box3 S57x 0 rfl).2.1, (box3 S57x 1 rfl).2.1⟩ (fun hS => ?_)
                    clear hK K
                    try simp only [zp0, zp1, zp2, zp3, zp4]
                    refine wpAnyH_ready (rs := [9]) (by kernel_rfl) (by simp) ?_
                    refine AllReadyH.cons rfl (fun K hK => ?_) ?_
                    · refine step_store_box rfl 141 (.tmp 6) (.tmp 30) rfl wd.heap.size 141 #[.int .u8 0, .int .u8 0, .int .u8 0, .int .u8 0, .int .u8 0, .int .u8 0] #[.int .u8 y0, .int .u8 y1, .int .u8 y2, .int .u8 y3, .int .u8 y4, .int .u8 y5] rfl rfl (box_at S57x 2 rfl) (by kernel_rfl) rfl (by simp [Value.oneCell']) ?_
                      intro w58x ht hr
                      have S58x := Sl.Sep.put (r' := boxR wd.heap.size 141 #[.int .u8 y0, .int .u8 y1, .int .u8 y2, .int .u8 y3, .int .u8 y4, .int .u8 y5]) S57x 2 rfl ht hr (fun b hb => hb)
                      clear ht hr
                      refine hK.out _ _ ⟨(box3 S58x 0 rfl).2.1, (box3 S58x 1 rfl).2.1⟩ (fun hS => ?_)
                      clear hK K
                      try simp only [zp0, zp1, zp2, zp3, zp4]
                      refine wpAnyH_done (by kernel_rfl) ?_ _
                      go_wp2_with fail
                      go_meet
                      case rel => exact ⟨_, _, rfl, rfl, And.intro (box_at S58x 3 rfl) (And.intro (box_at S58x 2 rfl) (sep_two S58x))⟩
                    exact AllReadyH.nil
                  exact AllReadyH.nil
                exact AllReadyH.nil
              exact AllReadyH.nil
            exact AllReadyH.nil
          exact AllReadyH.nil
        case rest =>
          obtain ⟨g1, g2, rfl, rfl, HR⟩ := hcut
          obtain ⟨p0, p1, p2, p3, p4, p5⟩ := box6 HR.out.1
          obtain ⟨q0, q1, q2, q3, q4, q5⟩ := box6 HR.out.2.1
          have hdec : decide ([x0, x1, x2, x3, x4, x5] = [y0, y1, y2, y3, y4, y5]) = decide (na = nb) := by
            obtain ⟨h1, h2, h3, h4⟩ := HM.out
            by_cases hn : na = nb
            · obtain rfl : ma = mb := by omega
              rw [decide_eq_true hn, decide_eq_true (h3.symm.trans h4)]
            · have hne : ¬ [x0, x1, x2, x3, x4, x5] = [y0, y1, y2, y3, y4, y5] := fun e => by
                rw [← h3, ← h4] at e
                have e2 := congrArg toU e
                rw [toU_toI, toU_toI] at e2
                have p6 : (256 : Nat) ^ 6 = 281474976710656 := by decide
                have g9 := HM2.out
                have := be_inj 6 ma mb (by rw [p6]; omega) (by rw [p6]; omega) e2
                omega
              rw [decide_eq_false hn, decide_eq_false hne]
          have heq : ∀ w, (Op.equalIn 10000 141 (.agg #[.int .u8 x0, .int .u8 x1, .int .u8 x2, .int .u8 x3, .int .u8 x4, .int .u8 x5]) (.agg #[.int .u8 y0, .int .u8 y1, .int .u8 y2, .int .u8 y3, .int .u8 y4, .int .u8 y5])).run Try.prog w = .ok (decide (na = nb)) w := fun w => by
            rw [array_eq, hdec]
          clear hdec
          by_cases hn : na = nb
          · have hd : decide (na = nb) = true := decide_eq_true hn
            rw [hd] at heq
            have HE := Lib.hid (HE1.out hn)
            clear HE1 HE2 hd
            obtain ⟨f0_0, f0_1, f0_2⟩ := L4.box3 HR.out.2.2 0 rfl
            obtain ⟨f1_0, f1_1, f1_2⟩ := L4.box3 HR.out.2.2 1 rfl
            have HC := Lib.hid (fun w => stringsCompare_any sa sb w)
            go_wp2_with (go_at_call 127; refine (HC.out _).mono ?_; rintro e w5 ⟨rfl, rfl⟩)
            go_ret
            refine ⟨?_, HR.out.2.2.old⟩
            rw [HE.out, ByteArray.toList_eq, ByteArray.toList_eq]
            simp [cmpL]
          · have hd : decide (na = nb) = false := decide_eq_false hn
            rw [hd] at heq
            have HE := Lib.hid (HE2.out hn)
            clear HE1 HE2 hd
            have HC := Lib.hid (show ∀ w', Row w' g1 141 #[.int .u8 x0, .int .u8 x1, .int .u8 x2, .int .u8 x3, .int .u8 x4, .int .u8 x5] → Row w' g2 141 #[.int .u8 y0, .int .u8 y1, .int .u8 y2, .int .u8 y3, .int .u8 y4, .int .u8 y5] →
                Calls Try.prog 126 #[.slice (some ⟨g1, 0, none⟩) 6 6, .slice (some ⟨g2, 0, none⟩) 6 6] w' fun e w'' => e = .returned (.int .i64 (sgn (decide (na < nb)) true)) ∧ Drew w' w'' from fun w' r1 r2 => by
              obtain ⟨h1, h2, h3, h4⟩ := HM.out
              have c := implCompareBytes_any (some ⟨g1, 0, none⟩) (some ⟨g2, 0, none⟩) 6 6 (toI (be 6 ma)) (toI (be 6 mb)) w' w'.heap.size (reads_row (t := 141) (by rw [h3]; exact r1)) (reads_row (t := 141) (by rw [h4]; exact r2))
              rw [toU_toI, toU_toI] at c
              have e1 : cmpL (be 6 ma) (be 6 mb) = sgn (decide (na < nb)) true := by
                have p6 : (256 : Nat) ^ 6 = 281474976710656 := by decide
                have g9 := HM2.out
                have l1 := be_less 6 ma mb (by rw [p6]; omega) (by rw [p6]; omega)
                have l2 := be_less 6 mb ma (by rw [p6]; omega) (by rw [p6]; omega)
                by_cases hlt : na < nb
                · rw [decide_eq_true (show ma < mb by omega)] at l1
                  rw [cmpL_less l1, decide_eq_true hlt]
                  rfl
                · rw [decide_eq_true (show mb < ma by omega)] at l2
                  rw [cmpL_more l2, decide_eq_false hlt]
                  rfl
              rw [e1, toI_length, toI_length, be_length, be_length] at c
              exact c)
            go_wp2_with fail
            go_region_held3 (fun _ => True) (exact trivial) ((go_at_call 126; refine (HC.out wc.drew HR.out.1 HR.out.2.1).mono ?_; rintro e w5 ⟨rfl, hd⟩))
            have hold := Lib.hid ((Sl.Sep.drews HR.out.2.2 1).keep (hd.below _)).old
            go_wp2_with fail
            go_ret
            exact ⟨by rw [HE.out]; rfl, hold.out⟩
      · have HE := Lib.hid (cmpK_kind hia hib hk)
        have HC := Lib.hid (fun w => cmpInt_any ka kb hk w)
        go_wp2_with (go_at_call 86; refine (HC.out _).mono ?_; rintro e w5 ⟨rfl, rfl⟩)
        go_ret
        exact ⟨by rw [HE.out]; rfl, S4.old⟩
end Go.Proofs.Ytmnedjhfibmcnaa.L4

/-
  The contracts of chapter 5's functions of the program that only read: IsName, GetField, copyRecord. Conditions: a name of at most 2^48 bytes, a record of at most 2^40 fields.
-/
namespace Go.Proofs.Ytmnedjhfibmcnaa.L5
set_option maxRecDepth 100000
open Go.Op (bytesLess)
open Go.ChangeShapes Go.WideShapes Go.ChangeAt Go.RowKit Mem Sl Ex L2 Sv
set_option linter.unusedVariables false

set_option maxHeartbeats 1000000 in
theorem getField_any (a : Option Addr) (c : Nat) (l : List F) (s : ByteArray) (hl : l.length ≤ 1099511627776) (w : World) (hr : Reads w w.heap.size a (cellsF l)) :
    Calls Try.prog 82 #[.agg #[.slice a l.length c], .string s] w fun e w' => e = .returned (.tuple #[.int .i64 (getN l s.data.toList), .bool (getB l s.data.toList)]) ∧ Below w.heap.size w w' := by
  have HBL := Lib.hid (below_alloc (Below.refl w.heap.size w) (.cells #[.slice a l.length c] 41) (Nat.le_refl _))
  have HR := Lib.hid (fun w' (h : Below w.heap.size w w') => hr.below h)
  obtain ⟨n, hn⟩ : ∃ n, n = l.length := ⟨_, rfl⟩
  rw [← hn] at HBL ⊢
  rw [← hn] at hl
  have HN := Lib.hid hn
  clear hn hr
  have hl' : (n : Int) ≤ 1099511627776 := by omega
  go_enter Try.func82, Try.ntmps82
  go_wp2_with fail
  go_loopw [11] (fun i wr => ∃ k : Nat, k ≤ n ∧ i = .int .i64 k ∧ Hid (Below w.heap.size w wr ∧ ∀ j (hj : j < l.length), j < k → l[j].t ≠ s.data.toList)) (fun i _ => n - (intOf i).toNat)
  case atStart => exact ⟨0, Nat.zero_le _, rfl, HBL.out, fun j hj h => by omega⟩
  case round =>
    obtain ⟨k, hk, rfl, hrel⟩ := hrel
    by_cases hlt : (k : Int) < (n : Int)
    · have hkl : k < l.length := by have := HN.out; omega
      obtain ⟨ad, rfl, had, h1, h2⟩ := readsF (HR.out _ hrel.out.1) k hkl
      obtain ⟨t, ht⟩ : ∃ t, t = l[k].name := ⟨_, rfl⟩
      obtain ⟨m, hm⟩ : ∃ m, m = l[k].n := ⟨_, rfl⟩
      rw [← ht] at h1
      rw [← hm] at h2
      have HW := Lib.hid (below_alloc hrel.out.1 (.cells #[.string t, .int .i64 m] 107) (Nat.le_refl _))
      by_cases he : t.data.toList = s.data.toList
      · have heq : (t.toList == s.toList) = true := by rw [ByteArray.toList_eq, ByteArray.toList_eq, he, beq_self_eq_true]
        have HG := Lib.hid (getO_at k hkl (show l[k].t = s.data.toList by unfold F.t; rw [← ht]; exact he) hrel.out.2)
        rw [← hm] at HG
        clear ht hm he
        go_wp2_with fail
        go_ret2
        exact ⟨by unfold getN getB; rw [HG.out]; rfl, HW.out⟩
      · have heq : (t.toList == s.toList) = false := by rw [ByteArray.toList_eq, ByteArray.toList_eq, beq_eq_false_iff_ne]; exact he
        have HT := Lib.hid (show l[k].t ≠ s.data.toList by unfold F.t; rw [← ht]; exact he)
        clear ht hm he
        go_wp2_with fail
        go_roundw
        case rel => exact ⟨k + 1, by omega, by go_num, HW.out, fun j hj h => by
          by_cases e : j < k
          · exact hrel.out.2 j hj e
          · obtain rfl : j = k := by omega
            exact HT.out⟩
        case measure => simp [intOf]; omega
    · go_wp2_with fail
      go_ret2
      have HG := getO_none (l := l) (name := s.data.toList) (fun j hj => hrel.out.2 j hj (by have := HN.out; omega))
      exact ⟨by unfold getN getB; rw [HG]; rfl, hrel.out.1⟩
end Go.Proofs.Ytmnedjhfibmcnaa.L5

/-
  The contracts of the program's closures over items, itemsWhere, numberIn, cmp.Compare, cmp.Or. Conditions: keys' texts of at most 2^40 bytes, at most 2^20 fields and items. (Written by my program gen_l7f.py.)
-/
namespace Go.Proofs.Ytmnedjhfibmcnaa.L7
set_option maxRecDepth 100000
open L4 (K isK cmpK R inR encU)
open L5 (F isR isN cellsF encR eqR Small getO getN getB)
open L6
open Go.ChangeShapes Go.WideShapes Go.ChangeAt Go.RowKit Mem Sl Ex L2 Sv Bag
set_option linter.unusedVariables false
set_option linter.unusedSimpArgs false

theorem filt_take {f : It → Bool} {xs : List It} {k : Nat} {x : It} (h : xs[k]? = some x) : (xs.take (k + 1)).filter f = (xs.take k).filter f ++ (if f x then [x] else []) := by
  obtain ⟨hk, rfl⟩ := List.getElem?_eq_some_iff.1 h
  rw [List.take_succ_eq_append_getElem hk, List.filter_append]
  congr 1
  by_cases h1 : f xs[k] = true
  · simp [h1]
  · simp [h1]
def Tests1 (Fn g : Nat) (f : It → Bool) (xs : List LI) (w : World) : Prop :=
  ∀ x ∈ xs, ∀ w', Below w.heap.size w w' → Calls Try.prog Fn #[.agg #[.int .i64 x.k.kind, .int .i64 x.k.n, .string x.k.text, .slice x.a x.l.length x.c], .pointer (some ⟨g, 0, none⟩)] w' fun e w'' => e = .returned (.bool (f x.con)) ∧ Below w'.heap.size w' w''
set_option maxHeartbeats 8000000 in
theorem itemsWhereB_any (g : Nat) (f : It → Bool) (y : LS) (hf : FitS y.con) (w : World) (hp : Tests1 81 g f y.xs w) (hr : RowsRd w w.heap.size y.rows) :
    Calls Try.prog 66 #[y.v, .func (.func 81) #[] #[.pointer (some ⟨g, 0, none⟩)]] w (GaveIs w (y.con.items.filter f)) := by
  obtain ⟨i0, hi1, hi2, hi3, hi4⟩ := itemInfo
  have HI := Lib.hid (And.intro hi1 (And.intro hi2 (And.intro hi3 hi4)))
  clear hi1 hi2 hi3 hi4
  have HP := Lib.hid hp
  clear hp
  obtain ⟨name, a, c, xs, auto⟩ := y
  have HR := Lib.hid (fun w' (h : Below w.heap.size w w') => LS.outer (hr.below h))
  have HX := Lib.hid (fun w' (h : Below w.heap.size w w') => (LS.inner (hr.below h)).more h.size)
  have HF := Lib.hid hf.items
  have HNM := Lib.hid hf.name
  have hl := hf.len
  simp only [LS.con, conI_length] at hl
  dsimp only [LS.con] at HR HX HF HNM
  try unfold LS.v LS.cells LS.con
  try dsimp only
  obtain ⟨N, hN⟩ : ∃ n, n = xs.length := ⟨_, rfl⟩
  rw [← hN] at hl ⊢
  have hl' : (N : Int) ≤ 1048576 := by omega
  have HN := Lib.hid hN
  clear hN hr hf
  have S1 := Lib.hid (show Sl.Sep w (w.alloc (.cells #[.string name, .slice a N c, .int .i64 auto] 26)) [L4.boxR w.heap.size 26 #[.string name, .slice a N c, .int .i64 auto]] from L4.push_box (Sl.Sep.start w) 26 #[.string name, .slice a N c, .int .i64 auto] (w.heap.size) (by simp))
  obtain ⟨wa, hwa⟩ : ∃ u, u = (w.alloc (.cells #[.string name, .slice a N c, .int .i64 auto] 26)) := ⟨_, rfl⟩
  rw [← hwa] at S1
  go_enter Try.func66, Try.ntmps66
  go_upto_region 1 with fail
  rw [← hwa]
  clear hwa
  go_upto_region 2 with fail
  have S2 := Lib.hid (show Sl.Sep w _ [L4.boxR w.heap.size 26 #[.string name, .slice a N c, .int .i64 auto], Sv.ownV 43 4 (some ⟨wa.heap.size, 0, none⟩) 0 0 (cellsI [])] from Sv.push_own S1.out ((Below.refl _ _).alloc (Nat.le_refl _) _) (OwnV.madeAt wa 43 4 0 wa.heap.size #[] rfl (Nat.le_refl _) rfl (by decide)))
  clear S1
  obtain ⟨g1, hg⟩ : ∃ g', g' = wa.heap.size := ⟨_, rfl⟩
  rw [← hg] at S2 ⊢
  clear hg
  generalize wa.alloc (.cells #[] 43) = w1 at S2 ⊢
  have S3 := Lib.hid (show Sl.Sep w _ [L4.boxR w.heap.size 26 #[.string name, .slice a N c, .int .i64 auto], Sv.ownV 43 4 (some ⟨g1, 0, none⟩) 0 0 (cellsI []), Bag.bag (rowsI [])] from Bag.push_bag S2.out (Below.refl _ _) (Bag.BagOwn.nil _ _))
  clear S2
  have hh := Bag.cs3 S3.out 0 rfl
  have f0 := hh.1; have f1 := hh.2.1; have f2 := hh.2.2; clear hh
  go_wp2_with fail
  clear f0 f1 f2
  go_loopw [5, 12] (fun v i wr => ∃ (k m : Nat) (A : Option Addr) (C : Nat) (ys : List LI), k ≤ N ∧ i = .int .i64 k ∧ v = .slice A m C ∧ m ≤ k ∧ Hid ((m = ys.length ∧ conI ys = ((conI xs).take k).filter f) ∧ Sl.Sep w wr [L4.boxR w.heap.size 26 #[.string name, .slice a N c, .int .i64 auto], Sv.ownV 43 4 A C m (cellsI ys), Bag.bag (rowsI ys)])) (fun _ i _ => N - (intOf i).toNat)
  case atStart => exact ⟨0, 0, _, _, [], Nat.zero_le _, rfl, rfl, Nat.le_refl _, And.intro ⟨rfl, rfl⟩ S3.out⟩
  case round =>
    obtain ⟨k, m, A, C, ys, hk, rfl, rfl, hmk, hrel⟩ := hrel
    have HC := Lib.hid hrel.out.1
    have S4 := Lib.hid hrel.out.2
    clear hrel S3
    by_cases hlt : (k : Int) < (N : Int)
    · skip
      have hkl : k < xs.length := by have := HN.out; omega
      obtain ⟨ad, x, rfl, hx⟩ := readsI_some (HR.out _ S4.out.old) k hkl
      obtain ⟨⟨kd, n, t⟩, ia, ic, l⟩ := x
      have HK := Lib.hid (fun w' (h : Below w.heap.size w w') => readsI_at (HR.out _ h) k _ hx)
      try dsimp only at HK
      have HFI := Lib.hid (fit_at HF.out hx)
      try dsimp only [LI.con] at HFI
      have HCI := Lib.hid (fun w' (h : Below w.heap.size w w') => copyItem_any kd n t ia ic l HFI.out.len w' (((HX.out _ h).at_ (rowsI_mem hx)).reads))
      try dsimp only at HCI
      have HPX := fun w' (h : Below w.heap.size w w') => HP.out _ (List.mem_of_getElem? hx) w' h
      obtain ⟨b, hb⟩ : ∃ b, f (⟨⟨kd, n, t⟩, l⟩ : It) = b := ⟨_, rfl⟩
      unfold LI.con at HPX
      dsimp only at HPX
      rw [hb] at HPX
      replace HPX := Lib.hid HPX
      have HT := Lib.hid (filt_take (f := f) (show (conI xs)[k]? = some (⟨⟨kd, n, t⟩, l⟩ : It) from con_of hx))
      have HB := Lib.hid hb
      clear hx hb
      have hh := Bag.cs3 S4.out 0 rfl
      have f0 := hh.1; have f1 := hh.2.1; have f2 := hh.2.2; clear hh
      have hh := HK.out _ S4.out.old
      have f3 := hh.1; have f4 := hh.2.1; have f5 := hh.2.2.1; have f6 := hh.2.2.2; clear hh
      go_upto_region 5 with fail
      clear f0 f1 f2 f3 f4 f5 f6
      have S5 := Lib.hid (show Sl.Sep w _ [L4.boxR w.heap.size 26 #[.string name, .slice (some ad) N c, .int .i64 auto], Sv.ownV 43 4 A C m (cellsI ys), Bag.bag (rowsI ys), L4.boxR wr.heap.size 43 #[.int .i64 kd, .int .i64 n, .string t, .slice ia l.length ic]] from L4.push_box S4.out 43 #[.int .i64 kd, .int .i64 n, .string t, .slice ia l.length ic] wr.heap.size rfl)
      clear S4
      obtain ⟨g2, hg⟩ : ∃ g', g' = wr.heap.size := ⟨_, rfl⟩
      rw [← hg] at S5 ⊢
      clear hg
      generalize wr.alloc (.cells #[.int .i64 kd, .int .i64 n, .string t, .slice ia l.length ic] 43) = w2 at S5 ⊢
      have hh := Bag.cs3 S5.out 0 rfl
      have f0 := hh.1; have f1 := hh.2.1; have f2 := hh.2.2; clear hh
      have hh := Bag.cs4 S5.out 3 rfl
      have f3 := hh.1; have f4 := hh.2.1; have f5 := hh.2.2.1; have f6 := hh.2.2.2; clear hh
      have hh := HK.out _ S5.out.old
      have f7 := hh.1; have f8 := hh.2.1; have f9 := hh.2.2.1; have f10 := hh.2.2.2; clear hh
      go_wp2_with fail
      go_at_call 81
      refine (HPX.out _ S5.out.old).mono ?_
      rintro e w3 ⟨rfl, hb⟩
      clear f0 f1 f2 f3 f4 f5 f6 f7 f8 f9 f10
      have S6 := Lib.hid (S5.out.keep hb)
      clear S5
      clear hb
      have hh := Bag.cs3 S6.out 0 rfl
      have f0 := hh.1; have f1 := hh.2.1; have f2 := hh.2.2; clear hh
      have hh := Bag.cs4 S6.out 3 rfl
      have f3 := hh.1; have f4 := hh.2.1; have f5 := hh.2.2.1; have f6 := hh.2.2.2; clear hh
      have hh := HK.out _ S6.out.old
      have f7 := hh.1; have f8 := hh.2.1; have f9 := hh.2.2.1; have f10 := hh.2.2.2; clear hh
      cases b with
      | false =>
        clear f0 f1 f2 f3 f4 f5 f6 f7 f8 f9 f10
        have S7 := Lib.hid (show Sl.Sep w _ [L4.boxR w.heap.size 26 #[.string name, .slice (some ad) N c, .int .i64 auto], Sv.ownV 43 4 A C m (cellsI ys), Bag.bag (rowsI ys)] from Bag.take S6.out [0, 1, 2] (by rfl) (by decide))
        clear S6
        go_wp2_with fail
        go_roundw
        case rel => exact ⟨k + 1, m, A, C, ys, by omega, by go_num, rfl, by omega, And.intro ⟨HC.out.1, by rw [HT.out, HB.out, HC.out.2]; simp⟩ S7.out⟩
        case measure => simp [intOf]; omega
      | true =>
        go_wp2_with fail
        go_at_call 94
        refine (HCI.out _ S6.out.old).mono ?_
        rintro e w4 ⟨a1, c1, rfl, ho, hb⟩
        clear f0 f1 f2 f3 f4 f5 f6 f7 f8 f9 f10
        have S7 := Lib.hid (show Sl.Sep w _ [L4.boxR w.heap.size 26 #[.string name, .slice (some ad) N c, .int .i64 auto], Sv.ownV 43 4 A C m (cellsI ys), Bag.bag (rowsI ys), L4.boxR g2 43 #[.int .i64 kd, .int .i64 n, .string t, .slice ia l.length ic], Bag.bag ([(LI.mk ⟨kd, n, t⟩ a1 c1 l).row])] from Bag.push_bag S6.out hb ho)
        clear S6
        clear hb ho
        have hh := Bag.cs3 S7.out 0 rfl
        have f0 := hh.1; have f1 := hh.2.1; have f2 := hh.2.2; clear hh
        have hh := Bag.cs4 S7.out 3 rfl
        have f3 := hh.1; have f4 := hh.2.1; have f5 := hh.2.2.1; have f6 := hh.2.2.2; clear hh
        have hh := HK.out _ S7.out.old
        have f7 := hh.1; have f8 := hh.2.1; have f9 := hh.2.2.1; have f10 := hh.2.2.2; clear hh
        have S8 := Lib.hid (show Sl.Sep w _ [L4.boxR w.heap.size 26 #[.string name, .slice (some ad) N c, .int .i64 auto], Sv.ownV 43 4 A C m (cellsI ys), Bag.bag (rowsI ys), L4.boxR g2 43 #[.int .i64 kd, .int .i64 n, .string t, .slice ia l.length ic], Bag.bag ([(LI.mk ⟨kd, n, t⟩ a1 c1 l).row]), Sv.ownV 43 4 (some ⟨w4.heap.size, 0, none⟩) 1 1 (cellsI [⟨⟨kd, n, t⟩, a1, c1, l⟩])] from Sv.push_own S7.out ((Below.refl _ _).alloc (Nat.le_refl _) _) (OwnV.madeAt w4 43 4 1 w4.heap.size #[.int .i64 kd, .int .i64 n, .string t, .slice a1 l.length c1] rfl (Nat.le_refl _) rfl (by decide)))
        clear S7
        go_wp2_with (at_builtin; refine L5.wpList_append_v S8.out 1 rfl rfl _ _ 24 (by rfl) i0 (.agg #[.int .i64 0, .int .i64 0, .string ⟨#[]⟩, .slice none 0 0]) 56 Try.underlying24 HI.out.1 HI.out.2.1 HI.out.2.2.1 HI.out.2.2.2 rfl (by omega) _ (by rfl) rfl _ _ 1 _ _ (cellsI [⟨⟨kd, n, t⟩, a1, c1, l⟩]) (by rfl) rfl (Sv.own_at S8.out 5 rfl).reads rfl (cellsI_one _) (by unfold maxLen; omega) (by omega) ?_; intro a3' c3' w5 hA)
        have S9 := Lib.hid (show Sl.Sep w _ [L4.boxR w.heap.size 26 #[.string name, .slice (some ad) N c, .int .i64 auto], Sv.ownV 43 4 a3' c3' (m + 1) (cellsI ys ++ (cellsI [⟨⟨kd, n, t⟩, a1, c1, l⟩])), Bag.bag (rowsI ys), L4.boxR g2 43 #[.int .i64 kd, .int .i64 n, .string t, .slice ia l.length ic], Bag.bag ([(LI.mk ⟨kd, n, t⟩ a1 c1 l).row]), Sv.ownV 43 4 (some ⟨w4.heap.size, 0, none⟩) 1 1 (cellsI [⟨⟨kd, n, t⟩, a1, c1, l⟩])] from hA)
        clear S8
        clear hA
        clear f0 f1 f2 f3 f4 f5 f6 f7 f8 f9 f10
        have S10 := Lib.hid (show Sl.Sep w _ [L4.boxR w.heap.size 26 #[.string name, .slice (some ad) N c, .int .i64 auto], Sv.ownV 43 4 a3' c3' (m + 1) (cellsI ys ++ (cellsI [⟨⟨kd, n, t⟩, a1, c1, l⟩])), Bag.bag (rowsI ys ++ ([(LI.mk ⟨kd, n, t⟩ a1 c1 l).row])), L4.boxR g2 43 #[.int .i64 kd, .int .i64 n, .string t, .slice ia l.length ic], Bag.bag ([]), Sv.ownV 43 4 (some ⟨w4.heap.size, 0, none⟩) 1 1 (cellsI [⟨⟨kd, n, t⟩, a1, c1, l⟩])] from Bag.bag_join S9.out 2 4 (by decide) rfl rfl)
        clear S9
        have S11 := Lib.hid (show Sl.Sep w _ [L4.boxR w.heap.size 26 #[.string name, .slice (some ad) N c, .int .i64 auto], Sv.ownV 43 4 a3' c3' (m + 1) (cellsI ys ++ (cellsI [⟨⟨kd, n, t⟩, a1, c1, l⟩])), Bag.bag (rowsI ys ++ ([(LI.mk ⟨kd, n, t⟩ a1 c1 l).row]))] from Bag.take S10.out [0, 1, 2] (by rfl) (by decide))
        clear S10
        go_roundw
        case rel =>
          refine ⟨k + 1, m + 1, a3', c3', ys ++ [⟨⟨kd, n, t⟩, a1, c1, l⟩], by omega, by go_num, rfl, by omega, And.intro ⟨?_, ?_⟩ ?_⟩
          · rw [List.length_append, ← HC.out.1]; rfl
          · rw [HT.out, HB.out, conI_snoc, HC.out.2]; rfl
          · rw [cellsI_append, rowsI_append]; exact S11.out
        case measure => simp [intOf]; omega
    · skip
      have hh := Bag.cs3 S4.out 0 rfl
      have f0 := hh.1; have f1 := hh.2.1; have f2 := hh.2.2; clear hh
      go_wp2_with fail
      go_ret
      obtain rfl : k = N := by omega
      obtain ⟨hm, hc⟩ := HC.out
      rw [List.take_of_length_le (show (conI xs).length ≤ k by have := HN.out; simp; omega)] at hc
      subst hm
      have S90 := Lib.hid (Bag.bag_of_one S4.out 1 (r := rowI A C ys) rfl)
      have S91 := Lib.hid (Bag.bag_join S90.out 1 2 (by decide) rfl rfl)
      exact ⟨A, C, ys, rfl, hc, Bag.bag_from S91.out 1 rfl, S91.out.old⟩
set_option maxHeartbeats 4000000 in
theorem numberIn_any (kd n : Int) (t : ByteArray) (ia : Option Addr) (ic : Nat) (l : List F) (f : ByteArray) (hl : l.length ≤ 1048576) (w : World) (hr : Reads w w.heap.size ia (cellsF l)) :
    Calls Try.prog 87 #[.agg #[.int .i64 kd, .int .i64 n, .string t, .slice ia l.length ic], .string f] w fun e w' => e = .returned (.int .i64 (getN l f.data.toList)) ∧ Below w.heap.size w w' := by
  have HGF := fun w' (h : Below w.heap.size w w') => L5.getField_any ia ic l f (by omega) w' ((hr.below h).more h.size)
  obtain ⟨fn, hfn⟩ : ∃ u, getN l f.data.toList = u := ⟨_, rfl⟩
  obtain ⟨fb, hfb⟩ : ∃ u, getB l f.data.toList = u := ⟨_, rfl⟩
  rw [hfn, hfb] at HGF
  replace HGF := Lib.hid HGF
  obtain ⟨N, hN⟩ : ∃ n, n = l.length := ⟨_, rfl⟩
  rw [← hN] at HGF ⊢
  clear hN hr
  rw [hfn]
  clear hfn hfb
  have S1 := Lib.hid (show Sl.Sep w (w.alloc (.cells #[.int .i64 kd, .int .i64 n, .string t, .slice ia N ic] 43)) [L4.boxR w.heap.size 43 #[.int .i64 kd, .int .i64 n, .string t, .slice ia N ic]] from L4.push_box (Sl.Sep.start w) 43 #[.int .i64 kd, .int .i64 n, .string t, .slice ia N ic] (w.heap.size) (by simp))
  obtain ⟨wa, hwa⟩ : ∃ u, u = (w.alloc (.cells #[.int .i64 kd, .int .i64 n, .string t, .slice ia N ic] 43)) := ⟨_, rfl⟩
  rw [← hwa] at S1
  go_enter Try.func87, Try.ntmps87
  go_upto_region 1 with fail
  rw [← hwa]
  clear hwa
  have hh := Bag.cs4 S1.out 0 rfl
  have f0 := hh.1; have f1 := hh.2.1; have f2 := hh.2.2.1; have f3 := hh.2.2.2; clear hh
  go_wp2_with fail
  go_at_call 82
  refine (HGF.out _ S1.out.old).mono ?_
  rintro e w1 ⟨rfl, hb⟩
  clear f0 f1 f2 f3
  have S2 := Lib.hid (S1.out.keep hb)
  clear S1
  clear hb
  have hh := Bag.cs4 S2.out 0 rfl
  have f0 := hh.1; have f1 := hh.2.1; have f2 := hh.2.2.1; have f3 := hh.2.2.2; clear hh
  go_wp2_with fail
  go_ret
  exact ⟨rfl, S2.out.old⟩
set_option maxHeartbeats 4000000 in
theorem indexOn1_any (kd n : Int) (t : ByteArray) (ia : Option Addr) (ic : Nat) (l : List F) (f : ByteArray) (hl : l.length ≤ 1048576) (g : Nat) (w : World) (hr : Reads w w.heap.size ia (cellsF l)) (hg : g < w.heap.size) (h0 : w.cell? ⟨g, 0, none⟩ = some (.string f)) :
    Calls Try.prog 81 #[.agg #[.int .i64 kd, .int .i64 n, .string t, .slice ia l.length ic], .pointer (some ⟨g, 0, none⟩)] w fun e w' => e = .returned (.bool (getB l f.data.toList)) ∧ Below w.heap.size w w' := by
  have HGF := fun w' (h : Below w.heap.size w w') => L5.getField_any ia ic l f (by omega) w' ((hr.below h).more h.size)
  obtain ⟨fn, hfn⟩ : ∃ u, getN l f.data.toList = u := ⟨_, rfl⟩
  obtain ⟨fb, hfb⟩ : ∃ u, getB l f.data.toList = u := ⟨_, rfl⟩
  rw [hfn, hfb] at HGF
  replace HGF := Lib.hid HGF
  obtain ⟨N, hN⟩ : ∃ n, n = l.length := ⟨_, rfl⟩
  rw [← hN] at HGF ⊢
  clear hN hr
  rw [hfb]
  clear hfn hfb
  have HK := Lib.hid (fun w' (h : Below w.heap.size w w') => (h.cell (p := ⟨g, 0, none⟩) hg).trans h0)
  clear h0
  have S1 := Lib.hid (show Sl.Sep w (w.alloc (.cells #[.int .i64 kd, .int .i64 n, .string t, .slice ia N ic] 43)) [L4.boxR w.heap.size 43 #[.int .i64 kd, .int .i64 n, .string t, .slice ia N ic]] from L4.push_box (Sl.Sep.start w) 43 #[.int .i64 kd, .int .i64 n, .string t, .slice ia N ic] (w.heap.size) (by simp))
  obtain ⟨wa, hwa⟩ : ∃ u, u = (w.alloc (.cells #[.int .i64 kd, .int .i64 n, .string t, .slice ia N ic] 43)) := ⟨_, rfl⟩
  rw [← hwa] at S1
  go_enter Try.func81, Try.ntmps81
  go_upto_region 1 with fail
  rw [← hwa]
  clear hwa
  have hh := Bag.cs4 S1.out 0 rfl
  have f0 := hh.1; have f1 := hh.2.1; have f2 := hh.2.2.1; have f3 := hh.2.2.2; clear hh
  have f4 : World.cell? _ ⟨g, 0, none⟩ = some (.string f) := (And.intro (HK.out _ S1.out.old) trivial).1
  go_wp2_with fail
  go_at_call 82
  refine (HGF.out _ S1.out.old).mono ?_
  rintro e w1 ⟨rfl, hb⟩
  clear f0 f1 f2 f3 f4
  have S2 := Lib.hid (S1.out.keep hb)
  clear S1
  clear hb
  have hh := Bag.cs4 S2.out 0 rfl
  have f0 := hh.1; have f1 := hh.2.1; have f2 := hh.2.2.1; have f3 := hh.2.2.2; clear hh
  have f4 : World.cell? _ ⟨g, 0, none⟩ = some (.string f) := (And.intro (HK.out _ S2.out.old) trivial).1
  go_wp2_with fail
  go_ret
  exact ⟨rfl, S2.out.old⟩
def cmp3 (x y : Int) : Int := if x < y then -1 else if y < x then 1 else 0
theorem cmpInt3_any (x y : Int) (w : World) :
    Calls Try.prog 86 #[.int .i64 x, .int .i64 y] w fun e w' => e = .returned (.int .i64 (cmp3 x y)) ∧ w = w' := by
  have H := Lib.hid L4.isNaN_any
  rcases (show x < y ∨ (¬ x < y ∧ x > y) ∨ (¬ x < y ∧ ¬ x > y) by omega) with h | ⟨h, h2⟩ | ⟨h, h2⟩
  all_goals
    go_enter Try.func86, Try.ntmps86
    go_wp2_with (go_at_call 125; refine (H.out _ _).mono ?_; rintro e w1 ⟨rfl, rfl⟩)
    go_ret
    exact ⟨by unfold cmp3; simp_all <;> omega, rfl⟩
set_option maxHeartbeats 2000000 in
theorem cmpOr_any (g : Nat) (u v : Int) (w : World) (h0 : w.cell? ⟨g, 0, none⟩ = some (.int .i64 u)) (h1 : w.cell? ⟨g, 1, none⟩ = some (.int .i64 v)) :
    Calls Try.prog 85 #[.slice (some ⟨g, 0, none⟩) 2 2] w fun e w' => e = .returned (.int .i64 (if u = 0 then v else u)) ∧ w = w' := by
  by_cases hu : u = 0
  · by_cases hv : v = 0
    · go_enter Try.func85, Try.ntmps85
      go_wp2
      refine wp_loop_rounds 3 ?_
      iterate 3 (rw [rounds_succ]; go_wp2)
      go_ret
      exact ⟨by simp [hu, hv], rfl⟩
    · go_enter Try.func85, Try.ntmps85
      go_wp2
      refine wp_loop_rounds 3 ?_
      iterate 2 (rw [rounds_succ]; go_wp2)
      go_ret
      exact ⟨by simp [hu], rfl⟩
  · go_enter Try.func85, Try.ntmps85
    go_wp2
    refine wp_loop_rounds 3 ?_
    iterate 1 (rw [rounds_succ]; go_wp2)
    go_ret
    exact ⟨by simp [hu], rfl⟩
set_option maxHeartbeats 8000000 in
theorem indexOn2_any (d1 n1 d2 n2 : Int) (t1 t2 : ByteArray) (a1 a2 : Option Addr) (c1 c2 : Nat) (l1 l2 : List F) (f : ByteArray) (g : Nat) (ht1 : t1.size ≤ 1099511627776) (ht2 : t2.size ≤ 1099511627776) (hl1 : l1.length ≤ 1048576) (hl2 : l2.length ≤ 1048576) (w : World) (hr1 : Reads w w.heap.size a1 (cellsF l1)) (hr2 : Reads w w.heap.size a2 (cellsF l2)) (hg : g < w.heap.size) (h0 : w.cell? ⟨g, 0, none⟩ = some (.string f)) :
    Calls Try.prog 84 #[.agg #[.int .i64 d1, .int .i64 n1, .string t1, .slice a1 l1.length c1], .agg #[.int .i64 d2, .int .i64 n2, .string t2, .slice a2 l2.length c2], .pointer (some ⟨g, 0, none⟩)] w fun e w' => e = .returned (.bool (less7 f.data.toList ⟨⟨d1, n1, t1⟩, l1⟩ ⟨⟨d2, n2, t2⟩, l2⟩)) ∧ Below w.heap.size w w' := by
  have HR1 := fun w' (h : Below w.heap.size w w') => numberIn_any d1 n1 t1 a1 c1 l1 f hl1 w' ((hr1.below h).more h.size)
  have HR2 := fun w' (h : Below w.heap.size w w') => numberIn_any d2 n2 t2 a2 c2 l2 f hl2 w' ((hr2.below h).more h.size)
  have HCK := fun w => L4.implCompareKeys_any ⟨d1, n1, t1⟩ ⟨d2, n2, t2⟩ (by show t1.size ≤ _; omega) (by show t2.size ≤ _; omega) w
  obtain ⟨na, hna⟩ : ∃ u, getN l1 f.data.toList = u := ⟨_, rfl⟩
  obtain ⟨nb, hnb⟩ : ∃ u, getN l2 f.data.toList = u := ⟨_, rfl⟩
  obtain ⟨m, hm⟩ : ∃ u, cmpK ⟨d1, n1, t1⟩ ⟨d2, n2, t2⟩ = u := ⟨_, rfl⟩
  obtain ⟨cv, hcv⟩ : ∃ u, cmp3 na nb = u := ⟨_, rfl⟩
  obtain ⟨z, hz⟩ : ∃ u, (if cv = 0 then m else cv) = u := ⟨_, rfl⟩
  have HE : less7 f.data.toList ⟨⟨d1, n1, t1⟩, l1⟩ ⟨⟨d2, n2, t2⟩, l2⟩ = decide (z < 0) := by
    unfold less7; dsimp only; rw [hna, hnb, hm, ← hz, ← hcv]; unfold cmp3
    by_cases h1 : na < nb
    · simp [h1]
    · by_cases h2 : nb < na
      · have h3 : ¬ na = nb := by omega
        simp [h1, h2, h3]
      · have h3 : na = nb := by omega
        simp [h3]
  rw [HE]
  rw [hna] at HR1
  rw [hnb] at HR2
  rw [hm] at HCK
  replace HR1 := Lib.hid HR1
  replace HR2 := Lib.hid HR2
  replace HCK := Lib.hid HCK
  dsimp only [L4.K.v] at HCK
  have HC3 := fun w => cmpInt3_any na nb w
  rw [hcv] at HC3
  replace HC3 := Lib.hid HC3
  have HOR := fun g w h0 h1 => cmpOr_any g cv m w h0 h1
  rw [hz] at HOR
  replace HOR := Lib.hid HOR
  have HK := Lib.hid (fun w' (h : Below w.heap.size w w') => (h.cell (p := ⟨g, 0, none⟩) hg).trans h0)
  obtain ⟨N1, hN1⟩ : ∃ n, n = l1.length := ⟨_, rfl⟩
  obtain ⟨N2, hN2⟩ : ∃ n, n = l2.length := ⟨_, rfl⟩
  rw [← hN1] at HR1 ⊢
  rw [← hN2] at HR2 ⊢
  clear h0 hna hnb hm hcv hz HE hr1 hr2 hN1 hN2
  have S1 := Lib.hid (show Sl.Sep w ((w.alloc (.cells #[.int .i64 d1, .int .i64 n1, .string t1, .slice a1 N1 c1] 43)).alloc (.cells #[.int .i64 d2, .int .i64 n2, .string t2, .slice a2 N2 c2] 43)) [L4.boxR w.heap.size 43 #[.int .i64 d1, .int .i64 n1, .string t1, .slice a1 N1 c1], L4.boxR (w.heap.size + 1) 43 #[.int .i64 d2, .int .i64 n2, .string t2, .slice a2 N2 c2]] from L4.push_box (L4.push_box (Sl.Sep.start w) 43 #[.int .i64 d1, .int .i64 n1, .string t1, .slice a1 N1 c1] (w.heap.size) (by simp)) 43 #[.int .i64 d2, .int .i64 n2, .string t2, .slice a2 N2 c2] (w.heap.size + 1) (by simp))
  obtain ⟨wa, hwa⟩ : ∃ u, u = ((w.alloc (.cells #[.int .i64 d1, .int .i64 n1, .string t1, .slice a1 N1 c1] 43)).alloc (.cells #[.int .i64 d2, .int .i64 n2, .string t2, .slice a2 N2 c2] 43)) := ⟨_, rfl⟩
  rw [← hwa] at S1
  go_enter Try.func84, Try.ntmps84
  go_upto_region 1 with fail
  rw [← hwa]
  clear hwa
  have hh := Bag.cs4 S1.out 0 rfl
  have f0 := hh.1; have f1 := hh.2.1; have f2 := hh.2.2.1; have f3 := hh.2.2.2; clear hh
  have hh := Bag.cs4 S1.out 1 rfl
  have f4 := hh.1; have f5 := hh.2.1; have f6 := hh.2.2.1; have f7 := hh.2.2.2; clear hh
  have f8 : World.cell? _ ⟨g, 0, none⟩ = some (.string f) := (And.intro (HK.out _ S1.out.old) trivial).1
  clear f0 f1 f2 f3 f4 f5 f6 f7 f8
  refine wp_region_held_drew (S := (fun w' => (World.cell? w' ⟨w.heap.size, 0, none⟩ = some (.int .i64 d1) ∧ World.cell? w' ⟨w.heap.size, 1, none⟩ = some (.int .i64 n1) ∧ World.cell? w' ⟨w.heap.size, 2, none⟩ = some (.string t1) ∧ World.cell? w' ⟨w.heap.size, 3, none⟩ = some (.slice a1 N1 c1)) ∧ (World.cell? w' ⟨w.heap.size + 1, 0, none⟩ = some (.int .i64 d2) ∧ World.cell? w' ⟨w.heap.size + 1, 1, none⟩ = some (.int .i64 n2) ∧ World.cell? w' ⟨w.heap.size + 1, 2, none⟩ = some (.string t2) ∧ World.cell? w' ⟨w.heap.size + 1, 3, none⟩ = some (.slice a2 N2 c2)) ∧ World.cell? w' ⟨g, 0, none⟩ = some (.string f))) (by kernel_rfl) ⟨Bag.cs4 (Bag.drew1 S1.out) 0 rfl, Bag.cs4 (Bag.drew1 S1.out) 1 rfl, (And.intro (HK.out _ (Bag.drew1 S1.out).old) trivial).1⟩ (fun hS => ?_)
  have S2 := Lib.hid (show Sl.Sep w _ [L4.boxR w.heap.size 43 #[.int .i64 d1, .int .i64 n1, .string t1, .slice a1 N1 c1], L4.boxR (w.heap.size + 1) 43 #[.int .i64 d2, .int .i64 n2, .string t2, .slice a2 N2 c2]] from Bag.drew1 S1.out)
  clear S1
  generalize World.drew _ = w1 at hS S2 ⊢
  refine tk 0 rfl ?_
  try simp only [zp0, zp1, zp2, zp3, zp4]
  refine tk 1 rfl ?_
  try simp only [zp0, zp1, zp2, zp3, zp4]
  refine tk 3 rfl ?_
  try simp only [zp0, zp1, zp2, zp3, zp4]
  refine tk 4 rfl ?_
  try simp only [zp0, zp1, zp2, zp3, zp4]
  refine tk 7 rfl ?_
  try simp only [zp0, zp1, zp2, zp3, zp4]
  refine tk 8 rfl ?_
  try simp only [zp0, zp1, zp2, zp3, zp4]
  refine tk 9 rfl ?_
  try simp only [zp0, zp1, zp2, zp3, zp4]
  refine tk 10 rfl ?_
  try simp only [zp0, zp1, zp2, zp3, zp4]
  refine Reg.one_op (i := 2) rfl (by kernel_rfl) (fun K hK => ?_)
  go_simp
  go_at_call 87
  refine (HR1.out _ S2.out.old).mono ?_
  rintro e w2 ⟨rfl, hb⟩
  have S3 := Lib.hid (S2.out.keep hb)
  clear S2
  clear hb
  go_wp2_with fail
  refine hK.out _ _ ⟨Bag.cs4 S3.out 0 rfl, Bag.cs4 S3.out 1 rfl, (And.intro (HK.out _ S3.out.old) trivial).1⟩ (fun hS => ?_)
  clear hK K
  try simp only [zp0, zp1, zp2, zp3, zp4]
  refine Reg.one_op (i := 5) rfl (by kernel_rfl) (fun K hK => ?_)
  go_simp
  go_at_call 87
  refine (HR2.out _ S3.out.old).mono ?_
  rintro e w3 ⟨rfl, hb⟩
  have S4 := Lib.hid (S3.out.keep hb)
  clear S3
  clear hb
  go_wp2_with fail
  refine hK.out _ _ ⟨Bag.cs4 S4.out 0 rfl, Bag.cs4 S4.out 1 rfl, (And.intro (HK.out _ S4.out.old) trivial).1⟩ (fun hS => ?_)
  clear hK K
  try simp only [zp0, zp1, zp2, zp3, zp4]
  refine Reg.one_op (i := 6) rfl (by kernel_rfl) (fun K hK => ?_)
  go_simp
  go_at_call 86
  refine (HC3.out _).mono ?_
  rintro e w4 ⟨rfl, rfl⟩
  go_wp2_with fail
  refine hK.out _ _ ⟨Bag.cs4 S4.out 0 rfl, Bag.cs4 S4.out 1 rfl, (And.intro (HK.out _ S4.out.old) trivial).1⟩ (fun hS => ?_)
  clear hK K
  try simp only [zp0, zp1, zp2, zp3, zp4]
  refine Reg.one_op (i := 11) rfl (by kernel_rfl) (fun K hK => ?_)
  go_simp
  go_at_call 88
  refine (HCK.out _).mono ?_
  rintro e w5 ⟨rfl, hb⟩
  have S5 := Lib.hid (S4.out.keep hb)
  clear S4
  clear hb
  go_wp2_with fail
  refine hK.out _ _ ⟨Bag.cs4 S5.out 0 rfl, Bag.cs4 S5.out 1 rfl, (And.intro (HK.out _ S5.out.old) trivial).1⟩ (fun hS => ?_)
  clear hK K
  try simp only [zp0, zp1, zp2, zp3, zp4]
  refine Reg.one_op (i := 12) rfl (by kernel_rfl) (fun K hK => ?_)
  go_simp
  have S6 := Lib.hid (show Sl.Sep w _ [L4.boxR w.heap.size 43 #[.int .i64 d1, .int .i64 n1, .string t1, .slice a1 N1 c1], L4.boxR (w.heap.size + 1) 43 #[.int .i64 d2, .int .i64 n2, .string t2, .slice a2 N2 c2], L4.boxR w5.heap.size 3 #[.int .i64 cv, .int .i64 m]] from L4.push_box S5.out 3 #[.int .i64 cv, .int .i64 m] w5.heap.size rfl)
  clear S5
  obtain ⟨g1, hg⟩ : ∃ g', g' = w5.heap.size := ⟨_, rfl⟩
  rw [← hg] at S6 ⊢
  clear hg
  generalize w5.alloc (.cells #[.int .i64 cv, .int .i64 m] 3) = w6 at S6 ⊢
  refine hK.out _ _ ⟨Bag.cs4 S6.out 0 rfl, Bag.cs4 S6.out 1 rfl, (And.intro (HK.out _ S6.out.old) trivial).1⟩ (fun hS => ?_)
  clear hK K
  try simp only [zp0, zp1, zp2, zp3, zp4]
  refine Reg.one_op (i := 13) rfl (by kernel_rfl) (fun K hK => ?_)
  go_simp
  go_at_call 85
  refine (HOR.out _ _ (Bag.cell_at S6.out 2 rfl 0 rfl) (Bag.cell_at S6.out 2 rfl 1 rfl)).mono ?_
  rintro e w7 ⟨rfl, rfl⟩
  go_wp2_with fail
  refine hK.out _ _ ⟨Bag.cs4 S6.out 0 rfl, Bag.cs4 S6.out 1 rfl, (And.intro (HK.out _ S6.out.old) trivial).1⟩ (fun hS => ?_)
  clear hK K
  try simp only [zp0, zp1, zp2, zp3, zp4]
  refine tk 14 rfl ?_
  try simp only [zp0, zp1, zp2, zp3, zp4]
  refine tk 15 rfl ?_
  try simp only [zp0, zp1, zp2, zp3, zp4]
  refine wpAnyH_done (by kernel_rfl) ?_ _
  have hh := Bag.cs4 S6.out 0 rfl
  have f0 := hh.1; have f1 := hh.2.1; have f2 := hh.2.2.1; have f3 := hh.2.2.2; clear hh
  have hh := Bag.cs4 S6.out 1 rfl
  have f4 := hh.1; have f5 := hh.2.1; have f6 := hh.2.2.1; have f7 := hh.2.2.2; clear hh
  have hh := Bag.cs2 S6.out 2 rfl
  have f8 := hh.1; have f9 := hh.2; clear hh
  have f10 : World.cell? _ ⟨g, 0, none⟩ = some (.string f) := (And.intro (HK.out _ S6.out.old) trivial).1
  go_wp2_with fail
  go_ret
  exact ⟨rfl, S6.out.old⟩
end Go.Proofs.Ytmnedjhfibmcnaa.L7

/-
  The contracts of the program's ItemsWith and CountWith. Conditions: keys' texts of at most 2^40 bytes, at most 2^20 fields and items. (Written by my program gen_l7g.py.)
-/
namespace Go.Proofs.Ytmnedjhfibmcnaa.L7
set_option maxRecDepth 100000
open L4 (K isK cmpK R inR encU)
open L5 (F isR isN cellsF encR eqR Small getO getN getB)
open L6
open Go.ChangeShapes Go.WideShapes Go.ChangeAt Go.RowKit Mem Sl Ex L2 Sv Bag
set_option linter.unusedVariables false
set_option linter.unusedSimpArgs false

theorem rowsI_mem' {xs : List LI} {x : LI} (h : x ∈ xs) : x.row ∈ rowsI xs := List.mem_map.2 ⟨x, h, rfl⟩
end Go.Proofs.Ytmnedjhfibmcnaa.L7

/-
  A region that draws its order, some loads of which a store ends: a step that writes behind that store. No condition.
-/
namespace Go.Proofs.Ytmnedjhfibmcnaa.Reg
set_option maxRecDepth 100000
section
variable {P : Program} {l : List Oper} {Q : Exit → Act → World → Prop} {md : Region.Mode} {S0 S1 : World → Prop} {q fuel i : Nat} {oi : Oper} {v : Value} {listed : Array Bool} {a : Act} {w : World}
theorem after_op (hi : nthO i l = some oi) (hr : Region.ready md l.toArray listed = [i]) (hl : listed.getD q true = true)
    (h : ∀ K' : Act → World → Prop, Shut (∀ a w, S0 w → (S0 w → anyL P md l.toArray Q S0 S1 q fuel (listed.setIfInBounds i true) a w) → K' a w) → if Region.wanted oi (yielded l.toArray a.tmps) = true then Oper.wp P oi a w K' Q else K' (a.put oi.dst undef) w) :
    anyL P md l.toArray Q S0 S1 q (fuel + 1) listed a w := by
  refine ⟨fun h0 => (by rw [hr] at h0; cases h0), fun j hj => ?_⟩
  rw [hr] at hj
  obtain rfl := List.mem_singleton.1 hj
  exact wpOp_step (by rw [nthO_eq]; exact hi) (fun K' hK => h K' (fun a w h0 hW => hK a w ⟨⟨h0, fun _ hn => absurd (hl.symm.trans hn) (by decide)⟩, hW h0⟩))
end
end Go.Proofs.Ytmnedjhfibmcnaa.Reg

/-
  The contracts of the program's sortByInsertion and IndexOn. Conditions: keys' texts of at most 2^40 bytes, at most 2^20 fields and items. (Written by my program gen_l7g.py.)
-/
namespace Go.Proofs.Ytmnedjhfibmcnaa.L7
set_option maxRecDepth 100000
open L4 (K isK cmpK R inR encU)
open L5 (F isR isN cellsF encR eqR Small getO getN getB)
open L6
open Go.ChangeShapes Go.WideShapes Go.ChangeAt Go.RowKit Mem Sl Ex L2 Sv Bag
set_option linter.unusedVariables false
set_option linter.unusedSimpArgs false

def Prec (Fn gc g : Nat) (t : List UInt8) (ys : List LI) (w : World) : Prop :=
  ∀ a ∈ ys, ∀ b ∈ ys, ∀ w', Turned [g] w w' → Calls Try.prog Fn #[.agg #[.int .i64 a.k.kind, .int .i64 a.k.n, .string a.k.text, .slice a.a a.l.length a.c], .agg #[.int .i64 b.k.kind, .int .i64 b.k.n, .string b.k.text, .slice b.a b.l.length b.c], .pointer (some ⟨gc, 0, none⟩)] w' fun e w'' => e = .returned (.bool (less7 t a.con b.con)) ∧ Below w'.heap.size w' w''
theorem four_at {w : World} {B g : Nat} {zs : List LI} (h : Reads w B (some ⟨g, 0, none⟩) (cellsI zs)) (q : Nat) (x : LI) (hx : zs[q]? = some x) :
    w.cell? ⟨g, q * 4, none⟩ = some (.int .i64 x.k.kind) ∧ w.cell? ⟨g, q * 4 + 1, none⟩ = some (.int .i64 x.k.n) ∧ w.cell? ⟨g, q * 4 + 2, none⟩ = some (.string x.k.text) ∧ w.cell? ⟨g, q * 4 + 3, none⟩ = some (.slice x.a x.l.length x.c) := by
  have h2 := readsI_at h q x hx
  simp only [Addr.add_lit, Nat.zero_add] at h2
  exact h2
theorem cells_swap1 {srt R : List LI} {q : Nat} {y x : LI} (hy : srt[q]? = some y) : cellsI (srt.take (q + 1) ++ x :: (srt.drop (q + 1) ++ R)) = cellsI (srt.take q) ++ (cellsI [y] ++ (cellsI [x] ++ cellsI (srt.drop (q + 1) ++ R))) := by
  obtain ⟨hq, rfl⟩ := List.getElem?_eq_some_iff.1 hy
  rw [List.take_succ_eq_append_getElem hq, ← cellsI_append, ← cellsI_append, ← cellsI_append]
  congr 1
  simp only [List.append_assoc, List.singleton_append, List.cons_append, List.nil_append]
theorem cells_swap2 {srt R : List LI} {q : Nat} {y x : LI} (hy : srt[q]? = some y) : cellsI (srt.take q ++ x :: (srt.drop q ++ R)) = (cellsI (srt.take q) ++ cellsI [x]) ++ (cellsI [y] ++ cellsI (srt.drop (q + 1) ++ R)) := by
  obtain ⟨hq, rfl⟩ := List.getElem?_eq_some_iff.1 hy
  rw [List.drop_eq_getElem_cons hq, ← cellsI_append, ← cellsI_append, ← cellsI_append]
  congr 1
  simp only [List.append_assoc, List.singleton_append, List.cons_append, List.nil_append]
def srtI (t : List UInt8) (xs : List It) : List It := xs.foldl (insX t) []
theorem srtI_take {xs : List It} {t : List UInt8} {k : Nat} {x : It} (h : xs[k]? = some x) : srtI t (xs.take (k + 1)) = insX t (srtI t (xs.take k)) x := by
  obtain ⟨hk, rfl⟩ := List.getElem?_eq_some_iff.1 h
  unfold srtI
  rw [List.take_succ_eq_append_getElem hk, List.foldl_append]
  rfl
theorem idx_srt (xs : List It) (t : List UInt8) : idxI xs t = srtI t (xs.filter fun x => getB x.l t) := by
  unfold idxI srtI
  rw [List.foldl_filter]
  rfl
theorem conI_ins7 (srt : List LI) (x : LI) (j : Nat) : conI (srt.take j ++ x :: srt.drop j) = (conI srt).take j ++ x.con :: (conI srt).drop j := by
  simp [conI, List.map_take, List.map_drop]
theorem perm_ins (srt : List LI) (x : LI) (j : Nat) (R ys : List LI) (h : (srt ++ x :: R).Perm ys) : (srt.take j ++ x :: srt.drop j ++ R).Perm ys := by
  refine List.Perm.trans ?_ h
  have h1 : (srt.take j ++ x :: srt.drop j).Perm (x :: srt) := by
    have h2 := List.perm_middle (a := x) (l₁ := srt.take j) (l₂ := srt.drop j)
    rwa [List.take_append_drop] at h2
  have h3 : (srt ++ x :: R).Perm (x :: (srt ++ R)) := List.perm_middle
  exact (h1.append_right R).trans h3.symm

set_option maxHeartbeats 8000000 in
theorem sort_any (g gc c : Nat) (ft : List UInt8) (ys : List LI) (hl : ys.length ≤ 1048576) (W w : World) (S : Sl.Sep W w [Sv.ownV 43 4 (some ⟨g, 0, none⟩) c ys.length (cellsI ys), Run.restR W w g]) (hp : Prec 84 gc g ft ys w) :
    Calls Try.prog 83 #[.slice (some ⟨g, 0, none⟩) ys.length c, .func (.func 84) #[] #[.pointer (some ⟨gc, 0, none⟩)]] w fun e w' => ∃ zs, e = .returned (.tuple #[]) ∧ zs.Perm ys ∧ conI zs = srtI ft (conI ys) ∧ Sl.Sep W w' [Sv.ownV 43 4 (some ⟨g, 0, none⟩) c ys.length (cellsI zs), Run.restR W w g] := by
  obtain ⟨i0, hi1, hi2, hi3, hi4⟩ := itemInfo
  have HI := Lib.hid (And.intro hi1 (And.intro hi2 (And.intro hi3 hi4)))
  clear hi1 hi2 hi3 hi4
  have HB0 := Lib.hid S.old
  have HP := Lib.hid hp
  obtain ⟨N, hN⟩ : ∃ n, n = ys.length := ⟨_, rfl⟩
  rw [← hN] at S hl
  have hl' : (N : Int) ≤ 1048576 := by omega
  have HN := Lib.hid hN
  have HCN := Lib.hid (Sv.own_at S 0 rfl).cap
  rw [← hN]
  have S1 := Lib.hid S
  clear hN S hp
  go_enter Try.func83, Try.ntmps83
  go_wp2_with fail
  go_loopw [8] (fun i wr => ∃ (k : Nat) (srt : List LI), k ≤ N ∧ i = .int .i64 k ∧ Hid ((srt.length = k ∧ conI srt = srtI ft ((conI ys).take k) ∧ (srt ++ ys.drop k).Perm ys) ∧ Sl.Sep W wr [Sv.ownV 43 4 (some ⟨g, 0, none⟩) c N (cellsI (srt ++ ys.drop k)), Run.restR W w g])) (fun i _ => N - (intOf i).toNat)
  case atStart => exact ⟨0, [], Nat.zero_le _, rfl, And.intro ⟨rfl, rfl, List.Perm.refl _⟩ S1.out⟩
  case round =>
    obtain ⟨k, srt, hk, rfl, hrel⟩ := hrel
    have HC := Lib.hid hrel.out.1
    have S2 := Lib.hid hrel.out.2
    clear hrel S1
    by_cases hlt : (k : Int) < (N : Int)
    · skip
      have hkl : k < ys.length := by have := HN.out; omega
      obtain ⟨x, hx⟩ : ∃ x, x = ys[k] := ⟨_, rfl⟩
      have HX := Lib.hid (show ys[k]? = some x from by rw [hx]; exact List.getElem?_eq_getElem hkl)
      have HD := Lib.hid (show ys.drop k = x :: ys.drop (k + 1) from by rw [hx, List.drop_eq_getElem_cons hkl])
      have HMEM := Lib.hid (show x ∈ ys from by rw [hx]; exact List.getElem_mem hkl)
      have HXC := Lib.hid (show (conI ys)[k]? = some x.con from con_of HX.out)
      have HSL := Lib.hid HC.out.1
      have HPM := Lib.hid (show (srt ++ x :: ys.drop (k + 1)).Perm ys from by rw [← HD.out]; exact HC.out.2.2)
      have HSM := Lib.hid (fun y (h : y ∈ srt) => HPM.out.subset (List.mem_append_left _ h))
      clear hx
      obtain ⟨⟨kd, n, t⟩, ia, ic, l⟩ := x
      have S3 := Lib.hid (show Sl.Sep W _ [Sv.ownV 43 4 (some ⟨g, 0, none⟩) c N (cellsI (srt.take k ++ ⟨⟨kd, n, t⟩, ia, ic, l⟩ :: (srt.drop k ++ ys.drop (k + 1)))), Run.restR W w g] from (by have h := S2.out; rw [HD.out] at h; rw [List.take_of_length_le (Nat.le_of_eq HSL.out), List.drop_of_length_le (Nat.le_of_eq HSL.out)]; exact h))
      clear S2
      go_wp2_with fail
      go_loopw [5] (fun v wr2 => ∃ j : Nat, j ≤ k ∧ v = .int .i64 j ∧ Hid (backP ft (⟨⟨kd, n, t⟩, l⟩ : It) (conI srt) k = backP ft (⟨⟨kd, n, t⟩, l⟩ : It) (conI srt) j ∧ Sl.Sep W wr2 [Sv.ownV 43 4 (some ⟨g, 0, none⟩) c N (cellsI (srt.take j ++ ⟨⟨kd, n, t⟩, ia, ic, l⟩ :: (srt.drop j ++ ys.drop (k + 1)))), Run.restR W w g])) (fun v _ => (intOf v).toNat)
      case atStart => exact ⟨k, Nat.le_refl _, rfl, And.intro rfl S3.out⟩
      case round =>
        obtain ⟨j, hjk, rfl, hrel⟩ := hrel
        have HBP := Lib.hid hrel.out.1
        have S4 := Lib.hid hrel.out.2
        clear hrel S3
        by_cases hj0 : j = 0
        · subst hj0
          go_upto_region 4 with fail
          refine wp_region_held_drew (S := (fun w' => True)) (by kernel_rfl) trivial (fun hS => ?_)
          have S5 := Lib.hid (show Sl.Sep W _ [Sv.ownV 43 4 (some ⟨g, 0, none⟩) c N (cellsI (srt.take 0 ++ ⟨⟨kd, n, t⟩, ia, ic, l⟩ :: (srt.drop 0 ++ ys.drop (k + 1)))), Run.restR W w g] from Bag.drew1 S4.out)
          clear S4
          generalize World.drew _ = w1 at hS S5 ⊢
          refine tk 0 rfl ?_
          try simp only [zp0, zp1, zp2, zp3, zp4]
          refine tk 1 rfl ?_
          try simp only [zp0, zp1, zp2, zp3, zp4]
          refine tk 2 rfl ?_
          try simp only [zp0, zp1, zp2, zp3, zp4]
          refine sk 3 rfl ?_
          try simp only [zp0, zp1, zp2, zp3, zp4]
          refine sk 4 rfl ?_
          try simp only [zp0, zp1, zp2, zp3, zp4]
          refine sk 5 rfl ?_
          try simp only [zp0, zp1, zp2, zp3, zp4]
          refine sk 6 rfl ?_
          try simp only [zp0, zp1, zp2, zp3, zp4]
          refine sk 7 rfl ?_
          try simp only [zp0, zp1, zp2, zp3, zp4]
          refine sk 8 rfl ?_
          try simp only [zp0, zp1, zp2, zp3, zp4]
          refine sk 9 rfl ?_
          try simp only [zp0, zp1, zp2, zp3, zp4]
          refine sk 10 rfl ?_
          try simp only [zp0, zp1, zp2, zp3, zp4]
          refine sk 11 rfl ?_
          try simp only [zp0, zp1, zp2, zp3, zp4]
          refine sk 12 rfl ?_
          try simp only [zp0, zp1, zp2, zp3, zp4]
          refine Reg.skip_one (i := 13) rfl (by kernel_rfl) (by rfl) (by assumption) ?_
          try simp only [zp0, zp1, zp2, zp3, zp4]
          refine tk 14 rfl ?_
          try simp only [zp0, zp1, zp2, zp3, zp4]
          refine wpAnyH_done (by kernel_rfl) ?_ _
          have HBJ := Lib.hid (show backP ft (⟨⟨kd, n, t⟩, l⟩ : It) (conI srt) k = 0 from by rw [HBP.out]; rfl)
          go_wp2_with fail
          go_roundw
          case rel =>
            refine ⟨k + 1, srt.take 0 ++ ⟨⟨kd, n, t⟩, ia, ic, l⟩ :: srt.drop 0, by omega, by go_num, And.intro ⟨?_, ?_, ?_⟩ ?_⟩
            · have := HSL.out; simp only [List.length_append, List.length_cons, List.length_take, List.length_drop]; omega
            · rw [srtI_take HXC.out, ← HC.out.2.1, conI_ins7]; unfold insX; rw [conI_length, HSL.out, show backP ft (LI.con ⟨⟨kd, n, t⟩, ia, ic, l⟩) (conI srt) k = 0 from HBJ.out] <;> rfl
            · exact perm_ins srt _ _ _ _ HPM.out
            · rw [List.append_assoc, List.cons_append]; exact S5.out
          case measure => simp [intOf]; omega
        · skip
          obtain ⟨q, rfl⟩ : ∃ q, j = q + 1 := ⟨j - 1, by omega⟩
          have hqs : q < srt.length := by have := HSL.out; omega
          skip
          obtain ⟨y, hy⟩ : ∃ y, srt[q]? = some y := ⟨_, List.getElem?_eq_getElem hqs⟩
          obtain ⟨⟨kd2, n2, t2⟩, ia2, ic2, l2⟩ := y
          have HY := Lib.hid hy
          have HYC := Lib.hid (show (conI srt)[q]? = some (⟨⟨kd2, n2, t2⟩, l2⟩ : It) from con_of hy)
          have HYM := Lib.hid (HSM.out _ (List.mem_of_getElem? hy))
          have HL1 := Lib.hid (show (srt.take (q + 1) ++ ⟨⟨kd, n, t⟩, ia, ic, l⟩ :: (srt.drop (q + 1) ++ ys.drop (k + 1)))[q + 1]? = some ⟨⟨kd, n, t⟩, ia, ic, l⟩ from by rw [List.getElem?_append_right (by rw [List.length_take]; omega)]; rw [show q + 1 - (srt.take (q + 1)).length = 0 by rw [List.length_take]; omega]; rfl)
          have HL2 := Lib.hid (show (srt.take (q + 1) ++ ⟨⟨kd, n, t⟩, ia, ic, l⟩ :: (srt.drop (q + 1) ++ ys.drop (k + 1)))[q]? = some ⟨⟨kd2, n2, t2⟩, ia2, ic2, l2⟩ from by rw [List.getElem?_append_left (by rw [List.length_take]; omega), List.getElem?_take, if_pos (Nat.lt_succ_self q)]; exact hy)
          clear hy
          have hsub : ((q + 1 : Nat) : Int) - 1 = (q : Int) := by omega
          have hi0 : 0 < ((q + 1 : Nat) : Int) := by omega
          have hqN : (q : Int) < (N : Int) := by omega
          have hqN1 : (q : Int) + 1 < (N : Int) := by omega
          have hq1 : (0 : Int) ≤ (q : Int) + 1 := by omega
          have hwr : IntKind.i64.wrap (q : Int) = (q : Int) := IntWalk.i64_in _ ⟨by omega, by omega⟩
          obtain ⟨b, hb⟩ : ∃ b, less7 ft (⟨⟨kd, n, t⟩, l⟩ : It) ⟨⟨kd2, n2, t2⟩, l2⟩ = b := ⟨_, rfl⟩
          go_upto_region 4 with fail
          refine wp_region_held_drew (S := (fun w' => World.cell? w' ⟨g, (q + 1) * 4, none⟩ = some (.int .i64 kd) ∧ World.cell? w' ⟨g, (q + 1) * 4 + 1, none⟩ = some (.int .i64 n) ∧ World.cell? w' ⟨g, (q + 1) * 4 + 2, none⟩ = some (.string t) ∧ World.cell? w' ⟨g, (q + 1) * 4 + 3, none⟩ = some (.slice ia l.length ic) ∧ World.cell? w' ⟨g, q * 4, none⟩ = some (.int .i64 kd2) ∧ World.cell? w' ⟨g, q * 4 + 1, none⟩ = some (.int .i64 n2) ∧ World.cell? w' ⟨g, q * 4 + 2, none⟩ = some (.string t2) ∧ World.cell? w' ⟨g, q * 4 + 3, none⟩ = some (.slice ia2 l2.length ic2))) (by kernel_rfl) ⟨(four_at (Sv.own_at (Bag.drew1 S4.out) 0 rfl).reads _ _ HL1.out).1, (four_at (Sv.own_at (Bag.drew1 S4.out) 0 rfl).reads _ _ HL1.out).2.1, (four_at (Sv.own_at (Bag.drew1 S4.out) 0 rfl).reads _ _ HL1.out).2.2.1, (four_at (Sv.own_at (Bag.drew1 S4.out) 0 rfl).reads _ _ HL1.out).2.2.2, (four_at (Sv.own_at (Bag.drew1 S4.out) 0 rfl).reads _ _ HL2.out).1, (four_at (Sv.own_at (Bag.drew1 S4.out) 0 rfl).reads _ _ HL2.out).2.1, (four_at (Sv.own_at (Bag.drew1 S4.out) 0 rfl).reads _ _ HL2.out).2.2.1, (four_at (Sv.own_at (Bag.drew1 S4.out) 0 rfl).reads _ _ HL2.out).2.2.2⟩ (fun hS => ?_)
          have S5 := Lib.hid (show Sl.Sep W _ [Sv.ownV 43 4 (some ⟨g, 0, none⟩) c N (cellsI (srt.take (q + 1) ++ ⟨⟨kd, n, t⟩, ia, ic, l⟩ :: (srt.drop (q + 1) ++ ys.drop (k + 1)))), Run.restR W w g] from Bag.drew1 S4.out)
          clear S4
          generalize World.drew _ = w1 at hS S5 ⊢
          refine tk 0 rfl ?_
          try simp only [zp0, zp1, zp2, zp3, zp4]
          refine tk 1 rfl ?_
          try simp only [zp0, zp1, zp2, zp3, zp4]
          refine tk 2 rfl ?_
          try simp only [zp0, zp1, zp2, zp3, zp4]
          refine tk 3 rfl ?_
          try simp only [zp0, zp1, zp2, zp3, zp4]
          refine tk 4 rfl ?_
          try simp only [zp0, zp1, zp2, zp3, zp4]
          refine tk 5 rfl ?_
          try simp only [zp0, zp1, zp2, zp3, zp4]
          refine tk 6 rfl ?_
          try simp only [zp0, zp1, zp2, zp3, zp4]
          refine tk 7 rfl ?_
          try simp only [zp0, zp1, zp2, zp3, zp4]
          refine tk 8 rfl ?_
          try simp only [zp0, zp1, zp2, zp3, zp4]
          refine tk 9 rfl ?_
          try simp only [zp0, zp1, zp2, zp3, zp4]
          refine tk 10 rfl ?_
          try simp only [zp0, zp1, zp2, zp3, zp4]
          refine tk 11 rfl ?_
          try simp only [zp0, zp1, zp2, zp3, zp4]
          refine tk 12 rfl ?_
          try simp only [zp0, zp1, zp2, zp3, zp4]
          refine Reg.one_op (i := 13) rfl (by kernel_rfl) (fun K hK => ?_)
          have HLS := HP.out _ HMEM.out _ HYM.out w1 (Run.rest_turned HB0.out S5.out)
          unfold LI.con at HLS
          dsimp only at HLS
          rw [hb] at HLS
          go_simp
          go_at_call 84
          refine HLS.mono ?_
          clear HLS
          rintro e w2 ⟨rfl, hbw⟩
          have S6 := Lib.hid (S5.out.keep hbw)
          clear S5
          clear hbw
          go_wp2_with fail
          refine hK.out _ _ ⟨(four_at (Sv.own_at S6.out 0 rfl).reads _ _ HL1.out).1, (four_at (Sv.own_at S6.out 0 rfl).reads _ _ HL1.out).2.1, (four_at (Sv.own_at S6.out 0 rfl).reads _ _ HL1.out).2.2.1, (four_at (Sv.own_at S6.out 0 rfl).reads _ _ HL1.out).2.2.2, (four_at (Sv.own_at S6.out 0 rfl).reads _ _ HL2.out).1, (four_at (Sv.own_at S6.out 0 rfl).reads _ _ HL2.out).2.1, (four_at (Sv.own_at S6.out 0 rfl).reads _ _ HL2.out).2.2.1, (four_at (Sv.own_at S6.out 0 rfl).reads _ _ HL2.out).2.2.2⟩ (fun hS => ?_)
          clear hK K
          try simp only [zp0, zp1, zp2, zp3, zp4]
          refine tk 14 rfl ?_
          try simp only [zp0, zp1, zp2, zp3, zp4]
          refine wpAnyH_done (by kernel_rfl) ?_ _
          have f0 : World.cell? _ ⟨g, (q + 1) * 4, none⟩ = some (.int .i64 kd) := (four_at (Sv.own_at S6.out 0 rfl).reads _ _ HL1.out).1
          have f1 : World.cell? _ ⟨g, (q + 1) * 4 + 1, none⟩ = some (.int .i64 n) := (four_at (Sv.own_at S6.out 0 rfl).reads _ _ HL1.out).2.1
          have f2 : World.cell? _ ⟨g, (q + 1) * 4 + 2, none⟩ = some (.string t) := (four_at (Sv.own_at S6.out 0 rfl).reads _ _ HL1.out).2.2.1
          have f3 : World.cell? _ ⟨g, (q + 1) * 4 + 3, none⟩ = some (.slice ia l.length ic) := (four_at (Sv.own_at S6.out 0 rfl).reads _ _ HL1.out).2.2.2
          have f4 : World.cell? _ ⟨g, q * 4, none⟩ = some (.int .i64 kd2) := (four_at (Sv.own_at S6.out 0 rfl).reads _ _ HL2.out).1
          have f5 : World.cell? _ ⟨g, q * 4 + 1, none⟩ = some (.int .i64 n2) := (four_at (Sv.own_at S6.out 0 rfl).reads _ _ HL2.out).2.1
          have f6 : World.cell? _ ⟨g, q * 4 + 2, none⟩ = some (.string t2) := (four_at (Sv.own_at S6.out 0 rfl).reads _ _ HL2.out).2.2.1
          have f7 : World.cell? _ ⟨g, q * 4 + 3, none⟩ = some (.slice ia2 l2.length ic2) := (four_at (Sv.own_at S6.out 0 rfl).reads _ _ HL2.out).2.2.2
          cases b with
          | false =>
            have HBJ := Lib.hid (show backP ft (⟨⟨kd, n, t⟩, l⟩ : It) (conI srt) k = q + 1 from by rw [HBP.out]; exact backP_stop HYC.out hb)
            go_wp2_with fail
            go_roundw
            case rel =>
              refine ⟨k + 1, srt.take (q + 1) ++ ⟨⟨kd, n, t⟩, ia, ic, l⟩ :: srt.drop (q + 1), by omega, by go_num, And.intro ⟨?_, ?_, ?_⟩ ?_⟩
              · have := HSL.out; simp only [List.length_append, List.length_cons, List.length_take, List.length_drop]; omega
              · rw [srtI_take HXC.out, ← HC.out.2.1, conI_ins7]; unfold insX; rw [conI_length, HSL.out, show backP ft (LI.con ⟨⟨kd, n, t⟩, ia, ic, l⟩) (conI srt) k = q + 1 from HBJ.out] <;> rfl
              · exact perm_ins srt _ _ _ _ HPM.out
              · rw [List.append_assoc, List.cons_append]; exact S6.out
            case measure => simp [intOf]; omega
          | true =>
            go_upto_region 6 with fail
            clear f0 f1 f2 f3 f4 f5 f6 f7
            refine Reg.wp_region_late (fun w' => True) (fun w' => World.cell? w' ⟨g, (q + 1) * 4, none⟩ = some (.int .i64 kd) ∧ World.cell? w' ⟨g, (q + 1) * 4 + 1, none⟩ = some (.int .i64 n) ∧ World.cell? w' ⟨g, (q + 1) * 4 + 2, none⟩ = some (.string t) ∧ World.cell? w' ⟨g, (q + 1) * 4 + 3, none⟩ = some (.slice ia l.length ic) ∧ World.cell? w' ⟨g, q * 4, none⟩ = some (.int .i64 kd2) ∧ World.cell? w' ⟨g, q * 4 + 1, none⟩ = some (.int .i64 n2) ∧ World.cell? w' ⟨g, q * 4 + 2, none⟩ = some (.string t2) ∧ World.cell? w' ⟨g, q * 4 + 3, none⟩ = some (.slice ia2 l2.length ic2)) 15 (by kernel_rfl) trivial ⟨(four_at (Sv.own_at (Bag.drew1 S6.out) 0 rfl).reads _ _ HL1.out).1, (four_at (Sv.own_at (Bag.drew1 S6.out) 0 rfl).reads _ _ HL1.out).2.1, (four_at (Sv.own_at (Bag.drew1 S6.out) 0 rfl).reads _ _ HL1.out).2.2.1, (four_at (Sv.own_at (Bag.drew1 S6.out) 0 rfl).reads _ _ HL1.out).2.2.2, (four_at (Sv.own_at (Bag.drew1 S6.out) 0 rfl).reads _ _ HL2.out).1, (four_at (Sv.own_at (Bag.drew1 S6.out) 0 rfl).reads _ _ HL2.out).2.1, (four_at (Sv.own_at (Bag.drew1 S6.out) 0 rfl).reads _ _ HL2.out).2.2.1, (four_at (Sv.own_at (Bag.drew1 S6.out) 0 rfl).reads _ _ HL2.out).2.2.2⟩ (fun hS hL => ?_)
            have S7 := Lib.hid (show Sl.Sep W _ [Sv.ownV 43 4 (some ⟨g, 0, none⟩) c N (cellsI (srt.take (q + 1) ++ ⟨⟨kd, n, t⟩, ia, ic, l⟩ :: (srt.drop (q + 1) ++ ys.drop (k + 1)))), Run.restR W w g] from Bag.drew1 S6.out)
            clear S6
            generalize World.drew _ = w3 at hS hL S7 ⊢
            refine Reg.early_op (i := 0) (v := ?_) rfl (by kernel_rfl) (by kernel_rfl) (by kernel_rfl) rfl (by kernel_rfl) (by kernel_rfl) (fun _ _ _ h => h) (by rfl) ?_ hS hL ?_
            rotate_left
            · (intro w hSw hSv; (try dsimp only at hSw); (try dsimp only at hSv); go_simp; try with_reducible rfl)
            try simp only [zp0, zp1, zp2, zp3, zp4]
            refine Reg.early_op (i := 1) (v := ?_) rfl (by kernel_rfl) (by kernel_rfl) (by kernel_rfl) rfl (by kernel_rfl) (by kernel_rfl) (fun _ _ _ h => h) (by rfl) ?_ hS hL ?_
            rotate_left
            · (intro w hSw hSv; (try dsimp only at hSw); (try dsimp only at hSv); go_simp; try with_reducible rfl)
            try simp only [zp0, zp1, zp2, zp3, zp4]
            refine Reg.early_op (i := 2) (v := ?_) rfl (by kernel_rfl) (by kernel_rfl) (by kernel_rfl) rfl (by kernel_rfl) (by kernel_rfl) (fun _ _ _ h => h) (by rfl) ?_ hS hL ?_
            rotate_left
            · (intro w hSw hSv; (try dsimp only at hSw); (try dsimp only at hSv); go_simp; try with_reducible rfl)
            try simp only [zp0, zp1, zp2, zp3, zp4]
            refine Reg.plain_op (i := 3) (v := ?_) rfl (by kernel_rfl) (by kernel_rfl) (by kernel_rfl) rfl (fun _ _ _ h => h) (by rfl) ?_ hS (fun _ => hL) ?_
            rotate_left
            · (intro w hSw; (try dsimp only at hSw); go_simp; try with_reducible rfl)
            try simp only [zp0, zp1, zp2, zp3, zp4]
            refine Reg.plain_op (i := 4) (v := ?_) rfl (by kernel_rfl) (by kernel_rfl) (by kernel_rfl) rfl (fun _ _ _ h => h) (by rfl) ?_ hS (fun _ => hL) ?_
            rotate_left
            · (intro w hSw; (try dsimp only at hSw); go_simp; try with_reducible rfl)
            try simp only [zp0, zp1, zp2, zp3, zp4]
            refine Reg.early_op (i := 5) (v := ?_) rfl (by kernel_rfl) (by kernel_rfl) (by kernel_rfl) rfl (by kernel_rfl) (by kernel_rfl) (fun _ _ _ h => h) (by rfl) ?_ hS hL ?_
            rotate_left
            · (intro w hSw hSv; (try dsimp only at hSw); (try dsimp only at hSv); go_simp; try with_reducible rfl)
            try simp only [zp0, zp1, zp2, zp3, zp4]
            refine Reg.early_op (i := 6) (v := ?_) rfl (by kernel_rfl) (by kernel_rfl) (by kernel_rfl) rfl (by kernel_rfl) (by kernel_rfl) (fun _ _ _ h => h) (by rfl) ?_ hS hL ?_
            rotate_left
            · (intro w hSw hSv; (try dsimp only at hSw); (try dsimp only at hSv); go_simp; try with_reducible rfl)
            try simp only [zp0, zp1, zp2, zp3, zp4]
            refine Reg.early_op (i := 7) (v := ?_) rfl (by kernel_rfl) (by kernel_rfl) (by kernel_rfl) rfl (by kernel_rfl) (by kernel_rfl) (fun _ _ _ h => h) (by rfl) ?_ hS hL ?_
            rotate_left
            · (intro w hSw hSv; (try dsimp only at hSw); (try dsimp only at hSv); go_simp; try with_reducible rfl)
            try simp only [zp0, zp1, zp2, zp3, zp4]
            refine Reg.early_op (i := 8) (v := ?_) rfl (by kernel_rfl) (by kernel_rfl) (by kernel_rfl) rfl (by kernel_rfl) (by kernel_rfl) (fun _ _ _ h => h) (by rfl) ?_ hS hL ?_
            rotate_left
            · (intro w hSw hSv; (try dsimp only at hSw); (try dsimp only at hSv); go_simp; try with_reducible rfl)
            try simp only [zp0, zp1, zp2, zp3, zp4]
            refine Reg.plain_op (i := 9) (v := ?_) rfl (by kernel_rfl) (by kernel_rfl) (by kernel_rfl) rfl (fun _ _ _ h => h) (by rfl) ?_ hS (fun _ => hL) ?_
            rotate_left
            · (intro w hSw; (try dsimp only at hSw); go_simp; try with_reducible rfl)
            try simp only [zp0, zp1, zp2, zp3, zp4]
            refine Reg.plain_op (i := 10) (v := ?_) rfl (by kernel_rfl) (by kernel_rfl) (by kernel_rfl) rfl (fun _ _ _ h => h) (by rfl) ?_ hS (fun _ => hL) ?_
            rotate_left
            · (intro w hSw; (try dsimp only at hSw); go_simp; try with_reducible rfl)
            try simp only [zp0, zp1, zp2, zp3, zp4]
            refine Reg.plain_op (i := 11) (v := ?_) rfl (by kernel_rfl) (by kernel_rfl) (by kernel_rfl) rfl (fun _ _ _ h => h) (by rfl) ?_ hS (fun _ => hL) ?_
            rotate_left
            · (intro w hSw; (try dsimp only at hSw); go_simp; try with_reducible rfl)
            try simp only [zp0, zp1, zp2, zp3, zp4]
            refine Reg.plain_op (i := 12) (v := ?_) rfl (by kernel_rfl) (by kernel_rfl) (by kernel_rfl) rfl (fun _ _ _ h => h) (by rfl) ?_ hS (fun _ => hL) ?_
            rotate_left
            · (intro w hSw; (try dsimp only at hSw); go_simp; try with_reducible rfl)
            try simp only [zp0, zp1, zp2, zp3, zp4]
            refine Reg.early_op (i := 13) (v := ?_) rfl (by kernel_rfl) (by kernel_rfl) (by kernel_rfl) rfl (by kernel_rfl) (by kernel_rfl) (fun _ _ _ h => h) (by rfl) ?_ hS hL ?_
            rotate_left
            · (intro w hSw hSv; (try dsimp only at hSw); (try dsimp only at hSv); go_simp; try with_reducible rfl)
            try simp only [zp0, zp1, zp2, zp3, zp4]
            refine Reg.early_op (i := 14) (v := ?_) rfl (by kernel_rfl) (by kernel_rfl) (by kernel_rfl) rfl (by kernel_rfl) (by kernel_rfl) (fun _ _ _ h => h) (by rfl) ?_ hS hL ?_
            rotate_left
            · (intro w hSw hSv; (try dsimp only at hSw); (try dsimp only at hSv); go_simp; try with_reducible rfl)
            try simp only [zp0, zp1, zp2, zp3, zp4]
            refine Reg.late_op (i := 15) rfl (by kernel_rfl) rfl (fun K hK => ?_)
            have S8 := Lib.hid (show Sl.Sep W _ [Sv.ownV 43 4 (some ⟨g, 0, none⟩) c N (cellsI (srt.take q) ++ (cellsI [⟨⟨kd2, n2, t2⟩, ia2, ic2, l2⟩] ++ (cellsI [⟨⟨kd, n, t⟩, ia, ic, l⟩] ++ cellsI (srt.drop (q + 1) ++ ys.drop (k + 1))))), Run.restR W w g] from (by have h := S7.out; rw [cells_swap1 HY.out] at h; exact h))
            clear S7
            have HAL := Lib.hid (show (cellsI (srt.take q)).length = q * 4 by rw [cellsI_length, List.length_take]; omega)
            have HAR := Lib.hid (show q * 4 + 8 ≤ (cellsI (srt.take q) ++ (cellsI [⟨⟨kd2, n2, t2⟩, ia2, ic2, l2⟩] ++ (cellsI [⟨⟨kd, n, t⟩, ia, ic, l⟩] ++ cellsI (srt.drop (q + 1) ++ ys.drop (k + 1))))).length from by simp only [List.length_append, HAL.out, cellsI_length, List.length_cons, List.length_nil]; omega)
            have q0 := (Sv.own_at S8.out 0 rfl).cell (q * 4) (by have := HAR.out; omega)
            have z0 := (Sv.own_at S8.out 0 rfl).free (q * 4)
            have q1 := (Sv.own_at S8.out 0 rfl).cell (q * 4 + 1) (by have := HAR.out; omega)
            have z1 := (Sv.own_at S8.out 0 rfl).free (q * 4 + 1)
            have q2 := (Sv.own_at S8.out 0 rfl).cell (q * 4 + 2) (by have := HAR.out; omega)
            have z2 := (Sv.own_at S8.out 0 rfl).free (q * 4 + 2)
            have q3 := (Sv.own_at S8.out 0 rfl).cell (q * 4 + 3) (by have := HAR.out; omega)
            have z3 := (Sv.own_at S8.out 0 rfl).free (q * 4 + 3)
            go_simp
            clear q0 z0 q1 z1 q2 z2 q3 z3
            have S9 := Lib.hid (show Sl.Sep W ((((w3.setCell ⟨g, q * 4, none⟩ (.int .i64 kd)).setCell ⟨g, q * 4 + 1, none⟩ (.int .i64 n)).setCell ⟨g, q * 4 + 2, none⟩ (.string t)).setCell ⟨g, q * 4 + 3, none⟩ (.slice ia l.length ic)) [Sv.ownV 43 4 (some ⟨g, 0, none⟩) c N (cellsI (srt.take q) ++ (cellsI [⟨⟨kd, n, t⟩, ia, ic, l⟩] ++ (cellsI [⟨⟨kd, n, t⟩, ia, ic, l⟩] ++ cellsI (srt.drop (q + 1) ++ ys.drop (k + 1))))), Run.restR W w g] from (by have h := Run.put_run S8.out 0 rfl (q * 4) [.int .i64 kd, .int .i64 n, .string t, .slice ia l.length ic] (by have := HAR.out; simp only [List.length_cons, List.length_nil]; omega); rw [Run.over_mid _ _ _ _ _ HAL.out (by rw [cellsI_length]; rfl)] at h; exact h))
            clear S8
            refine hK.out _ _ trivial (fun hS => ?_)
            clear hL
            clear hK K
            try simp only [zp0, zp1, zp2, zp3, zp4]
            refine Reg.plain_op (i := 16) (v := ?_) rfl (by kernel_rfl) (by kernel_rfl) (by kernel_rfl) rfl (fun _ _ _ h => h) (by rfl) ?_ hS (fun h => absurd h (by decide)) ?_
            rotate_left
            · (intro w hSw; (try dsimp only at hSw); go_simp; try with_reducible rfl)
            try simp only [zp0, zp1, zp2, zp3, zp4]
            refine Reg.after_op (i := 17) rfl (by kernel_rfl) (by kernel_rfl) (fun K hK => ?_)
            have S10 := Lib.hid (show Sl.Sep W ((((w3.setCell ⟨g, q * 4, none⟩ (.int .i64 kd)).setCell ⟨g, q * 4 + 1, none⟩ (.int .i64 n)).setCell ⟨g, q * 4 + 2, none⟩ (.string t)).setCell ⟨g, q * 4 + 3, none⟩ (.slice ia l.length ic)) [Sv.ownV 43 4 (some ⟨g, 0, none⟩) c N ((cellsI (srt.take q) ++ cellsI [⟨⟨kd, n, t⟩, ia, ic, l⟩]) ++ (cellsI [⟨⟨kd, n, t⟩, ia, ic, l⟩] ++ cellsI (srt.drop (q + 1) ++ ys.drop (k + 1)))), Run.restR W w g] from (by have h := S9.out; rw [← List.append_assoc] at h; exact h))
            clear S9
            have HAL2 := Lib.hid (show (cellsI (srt.take q) ++ cellsI [⟨⟨kd, n, t⟩, ia, ic, l⟩]).length = (q + 1) * 4 by rw [List.length_append, HAL.out, cellsI_length]; simp; omega)
            have HAR2 := Lib.hid (show (q + 1) * 4 + 4 ≤ ((cellsI (srt.take q) ++ cellsI [⟨⟨kd, n, t⟩, ia, ic, l⟩]) ++ (cellsI [⟨⟨kd, n, t⟩, ia, ic, l⟩] ++ cellsI (srt.drop (q + 1) ++ ys.drop (k + 1)))).length from by simp only [List.length_append, HAL.out, cellsI_length, List.length_cons, List.length_nil]; omega)
            have q0 := (Sv.own_at S10.out 0 rfl).cell ((q + 1) * 4) (by have := HAR2.out; omega)
            have z0 := (Sv.own_at S10.out 0 rfl).free ((q + 1) * 4)
            have q1 := (Sv.own_at S10.out 0 rfl).cell ((q + 1) * 4 + 1) (by have := HAR2.out; omega)
            have z1 := (Sv.own_at S10.out 0 rfl).free ((q + 1) * 4 + 1)
            have q2 := (Sv.own_at S10.out 0 rfl).cell ((q + 1) * 4 + 2) (by have := HAR2.out; omega)
            have z2 := (Sv.own_at S10.out 0 rfl).free ((q + 1) * 4 + 2)
            have q3 := (Sv.own_at S10.out 0 rfl).cell ((q + 1) * 4 + 3) (by have := HAR2.out; omega)
            have z3 := (Sv.own_at S10.out 0 rfl).free ((q + 1) * 4 + 3)
            go_simp
            clear q0 z0 q1 z1 q2 z2 q3 z3
            have S11 := Lib.hid (show Sl.Sep W ((((((((w3.setCell ⟨g, q * 4, none⟩ (.int .i64 kd)).setCell ⟨g, q * 4 + 1, none⟩ (.int .i64 n)).setCell ⟨g, q * 4 + 2, none⟩ (.string t)).setCell ⟨g, q * 4 + 3, none⟩ (.slice ia l.length ic)).setCell ⟨g, (q + 1) * 4, none⟩ (.int .i64 kd2)).setCell ⟨g, (q + 1) * 4 + 1, none⟩ (.int .i64 n2)).setCell ⟨g, (q + 1) * 4 + 2, none⟩ (.string t2)).setCell ⟨g, (q + 1) * 4 + 3, none⟩ (.slice ia2 l2.length ic2)) [Sv.ownV 43 4 (some ⟨g, 0, none⟩) c N ((cellsI (srt.take q) ++ cellsI [⟨⟨kd, n, t⟩, ia, ic, l⟩]) ++ (cellsI [⟨⟨kd2, n2, t2⟩, ia2, ic2, l2⟩] ++ cellsI (srt.drop (q + 1) ++ ys.drop (k + 1)))), Run.restR W w g] from (by have h := Run.put_run S10.out 0 rfl ((q + 1) * 4) [.int .i64 kd2, .int .i64 n2, .string t2, .slice ia2 l2.length ic2] (by have := HAR2.out; simp only [List.length_cons, List.length_nil]; omega); rw [Run.over_mid _ _ _ _ _ HAL2.out (by rw [cellsI_length]; rfl)] at h; exact h))
            clear S10
            refine hK.out _ _ trivial (fun hS => ?_)
            clear hK K
            try simp only [zp0, zp1, zp2, zp3, zp4]
            refine Reg.anyL_done (by kernel_rfl) ?_ _
            have S12 := Lib.hid (show Sl.Sep W _ [Sv.ownV 43 4 (some ⟨g, 0, none⟩) c N (cellsI (srt.take q ++ ⟨⟨kd, n, t⟩, ia, ic, l⟩ :: (srt.drop q ++ ys.drop (k + 1)))), Run.restR W w g] from (by rw [cells_swap2 HY.out]; exact S11.out))
            clear S11
            go_wp2_with fail
            go_roundw
            case rel => exact ⟨q, by omega, by go_num, And.intro (by rw [HBP.out, backP_go HYC.out hb]) S12.out⟩
            case measure => simp [intOf]
    · skip
      go_wp2_with fail
      obtain rfl : k = N := by omega
      have hd : ys.drop k = [] := List.drop_of_length_le (Nat.le_of_eq HN.out.symm)
      have HC2 := HC.out
      have SE := S2.out
      rw [hd, List.append_nil] at HC2 SE
      rw [List.take_of_length_le (by rw [conI_length]; exact Nat.le_of_eq HN.out.symm)] at HC2
      go_end0
      exact ⟨rfl, srt, HC2.2.2, HC2.2.1, SE⟩
set_option maxHeartbeats 2000000 in
theorem sortNil_any (gc : Nat) (w : World) :
    Calls Try.prog 83 #[.slice none 0 0, .func (.func 84) #[] #[.pointer (some ⟨gc, 0, none⟩)]] w fun e w' => e = .returned (.tuple #[]) ∧ Below w.heap.size w w' := by
  go_enter Try.func83, Try.ntmps83
  go_wp2_with fail
  refine wp_loop_rounds 1 ?_
  rw [rounds_succ]
  go_wp2_with fail
  go_end0
  exact ⟨rfl, Below.refl _ _⟩
set_option maxHeartbeats 8000000 in
theorem indexOn_any (y : LS) (f : ByteArray) (hf : FitS y.con) (w : World) (hr : RowsRd w w.heap.size y.rows) :
    Calls Try.prog 25 #[y.v, .string f] w (GaveIs w (idxI y.con.items f.data.toList)) := by
  have HF := Lib.hid hf.items
  have HRY := Lib.hid (fun w' (h : Below w.heap.size w w') => (hr.below h).more h.size)
  have HINN := Lib.hid (fun w' (h : Below w.heap.size w w') => ((LS.inner hr).below h).more h.size)
  have hmf : ∀ (fn : Fn) (first cap : Array Value) (w : World), (Instr.makeFunc fn first cap).run Try.prog w = .ok (.func fn first cap) w := fun _ _ _ _ => rfl
  have HFS := Lib.hid hf
  clear hr hf
  obtain ⟨name, a, c, xs, auto⟩ := y
  dsimp only [LS.v, LS.cells, LS.con] at HRY HF HINN HFS ⊢
  have hxl : xs.length ≤ 1048576 := by have h := HFS.out.len; simp only [conI_length] at h; exact h
  have HXL := Lib.hid hxl
  clear hxl
  have S1 := Lib.hid (show Sl.Sep w ((w.alloc (.cells #[.string name, .slice a xs.length c, .int .i64 auto] 26)).alloc (.cells #[.string f] 9)) [L4.boxR w.heap.size 26 #[.string name, .slice a xs.length c, .int .i64 auto], L4.boxR (w.heap.size + 1) 9 #[.string f]] from L4.push_box (L4.push_box (Sl.Sep.start w) 26 #[.string name, .slice a xs.length c, .int .i64 auto] (w.heap.size) (by simp)) 9 #[.string f] (w.heap.size + 1) (by simp))
  obtain ⟨wa, hwa⟩ : ∃ u, u = ((w.alloc (.cells #[.string name, .slice a xs.length c, .int .i64 auto] 26)).alloc (.cells #[.string f] 9)) := ⟨_, rfl⟩
  rw [← hwa] at S1
  go_enter Try.func25, Try.ntmps25
  go_upto_region 1 with fail
  rw [← hwa]
  clear hwa
  have HW := Lib.hid (itemsWhereB_any (w.heap.size + 1) (fun x => getB x.l f.data.toList) ⟨name, a, c, xs, auto⟩ HFS.out wa (fun x hx w' hb => by
    have c0 := (Below.cell hb (p := ⟨w.heap.size + 1, 0, none⟩) (S1.out.lies 1 _ rfl _ (by simp [L4.boxR])).2).trans (Bag.cell_at S1.out 1 rfl 0 rfl)
    exact indexOn1_any _ _ _ _ _ x.l f (HF.out _ (List.mem_map.2 ⟨x, hx, rfl⟩)).len _ w' (((HINN.out w' (S1.out.old.trans (hb.mono S1.out.old.size))).at_ (rowsI_mem' hx)).reads) (Nat.lt_of_lt_of_le (S1.out.lies 1 _ rfl _ (by simp [L4.boxR])).2 hb.size) c0) (HRY.out _ S1.out.old))
  dsimp only [LS.v, LS.cells, LS.con] at HW
  have hh := Bag.cs3 S1.out 0 rfl
  have f0 := hh.1; have f1 := hh.2.1; have f2 := hh.2.2; clear hh
  have f3 := Bag.cs1 S1.out 1 rfl
  go_wp2_with fail
  go_at_call 66
  refine (HW.out).mono ?_
  rintro e w1 ⟨la, lc, ys, rfl, hys, ho, hb⟩
  clear f0 f1 f2 f3
  have S2 := Lib.hid (show Sl.Sep w _ [L4.boxR w.heap.size 26 #[.string name, .slice a xs.length c, .int .i64 auto], L4.boxR (w.heap.size + 1) 9 #[.string f], Bag.bag (rowI la lc ys :: rowsI ys)] from Bag.push_bag S1.out hb ho)
  clear S1
  clear hb ho
  clear HW
  have HY := Lib.hid hys
  clear hys
  have hyl : ys.length ≤ 1048576 := by have h := congrArg List.length HY.out; rw [conI_length] at h; have h2 := List.length_filter_le (fun x : It => getB x.l f.data.toList) (conI xs); rw [conI_length] at h2; have := HXL.out; omega
  have HYL := Lib.hid hyl
  clear hyl
  have HIT := Lib.hid (fun (x : LI) (hx : x ∈ ys) => HF.out x.con (List.mem_filter.1 (show x.con ∈ (conI xs).filter (fun x => getB x.l f.data.toList) from by rw [← HY.out]; exact List.mem_map.2 ⟨x, hx, rfl⟩)).1)
  have HIDX := Lib.hid (show idxI (conI xs) f.data.toList = srtI f.data.toList (conI ys) from by rw [idx_srt, HY.out])
  have S3 := Lib.hid (show Sl.Sep w _ [L4.boxR w.heap.size 26 #[.string name, .slice a xs.length c, .int .i64 auto], L4.boxR (w.heap.size + 1) 9 #[.string f], Bag.bag ([rowI la lc ys] ++ rowsI ys)] from S2.out)
  clear S2
  have S4 := Lib.hid (show Sl.Sep w _ [L4.boxR w.heap.size 26 #[.string name, .slice a xs.length c, .int .i64 auto], L4.boxR (w.heap.size + 1) 9 #[.string f], Bag.bag ([rowI la lc ys]), Bag.bag (rowsI ys)] from Bag.bag_split S3.out 2 rfl)
  clear S3
  have S5 := Lib.hid (show Sl.Sep w _ [L4.boxR w.heap.size 26 #[.string name, .slice a xs.length c, .int .i64 auto], L4.boxR (w.heap.size + 1) 9 #[.string f], Sv.ownV 43 4 la lc ys.length (cellsI ys), Bag.bag (rowsI ys)] from (by have h := Bag.one_of_bag S4.out 2 (r := rowI la lc ys) rfl; unfold RowS.res rowI at h; dsimp only at h; exact h))
  clear S4
  rcases (Sv.own_at S5.out 2 rfl).form with ⟨rfl, hl0, -, rfl⟩ | ⟨g3, rfl, -⟩
  · have hy0 : ys = [] := List.eq_nil_of_length_eq_zero hl0
    subst hy0
    dsimp only [List.length_nil]
    have hh := Bag.cs3 S5.out 0 rfl
    have f0 := hh.1; have f1 := hh.2.1; have f2 := hh.2.2; clear hh
    have f3 := Bag.cs1 S5.out 1 rfl
    go_wp2_with fail
    go_at_call 83
    refine (sortNil_any _ _).mono ?_
    rintro e w2 ⟨rfl, hb⟩
    clear f0 f1 f2 f3
    have S6 := Lib.hid (S5.out.keep hb)
    clear S5
    clear hb
    have hh := Bag.cs3 S6.out 0 rfl
    have f0 := hh.1; have f1 := hh.2.1; have f2 := hh.2.2; clear hh
    have f3 := Bag.cs1 S6.out 1 rfl
    go_wp2_with fail
    go_ret
    exact ⟨none, 0, [], rfl, (show conI [] = srtI f.data.toList (conI []) from rfl).trans HIDX.out.symm, BagOwn.one (by have h := Sv.own_from S6.out 2 rfl; exact h), S6.out.old⟩
  · skip
    have HPR : Hid (Prec 84 (w.heap.size + 1) g3 f.data.toList ys w1) := Lib.hid (fun x hx y hy w' ht => by
      have hne : ∀ (i : Nat) (r : Res), i ≠ 2 → ([L4.boxR w.heap.size 26 #[.string name, .slice a xs.length c, .int .i64 auto], L4.boxR (w.heap.size + 1) 9 #[.string f], Sv.ownV 43 4 (some ⟨g3, 0, none⟩) lc ys.length (cellsI ys), Bag.bag (rowsI ys)] : List Res)[i]? = some r → ∀ b ∈ r.fp, w'.heap[b]? = (World.heap w1)[b]? := fun i r hi hr b hb => ht.block b (S5.out.lies i r hr b hb).2 (fun e => by
        rw [List.mem_singleton] at e; subst e; exact S5.out.apart i 2 r _ hr rfl hi _ hb (by simp [Sv.ownV, Value.ownBlock]))
      have hrd := Bag.BagOwn.rd ((Bag.bag (rowsI ys)).loc (hne 3 _ (by decide) rfl) (S5.out.is 3 _ rfl))
      have hrow := (L4.boxR (w.heap.size + 1) 9 #[.string f]).loc (hne 1 _ (by decide) rfl) (S5.out.is 1 _ rfl)
      have hrow' : Row w' (w.heap.size + 1) 9 #[.string f] := hrow
      exact indexOn2_any _ _ _ _ _ _ _ _ _ _ x.l y.l f _ (HIT.out x hx).text (HIT.out y hy).text (HIT.out x hx).len (HIT.out y hy).len w' ((hrd.at_ (rowsI_mem' hx)).reads) ((hrd.at_ (rowsI_mem' hy)).reads) (Nat.lt_of_lt_of_le (S5.out.lies 1 _ rfl _ (by simp [L4.boxR])).2 ht.size) (by rw [hrow'.cell]; rfl))
    have HSO := Lib.hid (sort_any g3 (w.heap.size + 1) lc f.data.toList ys (by have := HYL.out; omega) w w1 (Run.rest_start S5.out 2 rfl) HPR.out)
    have hh := Bag.cs3 S5.out 0 rfl
    have f0 := hh.1; have f1 := hh.2.1; have f2 := hh.2.2; clear hh
    have f3 := Bag.cs1 S5.out 1 rfl
    go_wp2_with fail
    go_at_call 83
    refine HSO.out.mono ?_
    rintro e w5 ⟨zs, rfl, hpm, hcz, hS⟩
    clear f0 f1 f2 f3
    have S6 := Lib.hid (show Sl.Sep w _ [L4.boxR w.heap.size 26 #[.string name, .slice a xs.length c, .int .i64 auto], L4.boxR (w.heap.size + 1) 9 #[.string f], Sv.ownV 43 4 (some ⟨g3, 0, none⟩) lc ys.length (cellsI zs), Bag.bag (rowsI ys)] from Run.rest_back S5.out 2 rfl hS)
    clear S5
    clear hS HSO HPR
    have HPM := Lib.hid hpm
    have HCZ := Lib.hid hcz
    clear hpm hcz
    have S7 := Lib.hid (show Sl.Sep w _ [L4.boxR w.heap.size 26 #[.string name, .slice a xs.length c, .int .i64 auto], L4.boxR (w.heap.size + 1) 9 #[.string f], Sv.ownV 43 4 (some ⟨g3, 0, none⟩) lc ys.length (cellsI zs), Bag.bag (rowsI zs)] from Bag.bag_perm S6.out 3 rfl ((HPM.out.map LI.row).symm))
    clear S6
    have hh := Bag.cs3 S7.out 0 rfl
    have f0 := hh.1; have f1 := hh.2.1; have f2 := hh.2.2; clear hh
    have f3 := Bag.cs1 S7.out 1 rfl
    go_wp2_with fail
    go_ret
    have hlz := HPM.out.length_eq
    clear f0 f1 f2 f3
    have S8 := Lib.hid (show Sl.Sep w _ [L4.boxR w.heap.size 26 #[.string name, .slice a xs.length c, .int .i64 auto], L4.boxR (w.heap.size + 1) 9 #[.string f], Sv.ownV 43 4 (some ⟨g3, 0, none⟩) lc zs.length (cellsI zs), Bag.bag (rowsI zs)] from (by have h := S7.out; rw [← hlz] at h; exact h))
    clear S7
    have S9 := Lib.hid (show Sl.Sep w _ [L4.boxR w.heap.size 26 #[.string name, .slice a xs.length c, .int .i64 auto], L4.boxR (w.heap.size + 1) 9 #[.string f], Bag.bag ([rowI (some ⟨g3, 0, none⟩) lc zs]), Bag.bag (rowsI zs)] from Bag.bag_of_one S8.out 2 (r := rowI (some ⟨g3, 0, none⟩) lc zs) rfl)
    clear S8
    have S10 := Lib.hid (show Sl.Sep w _ [L4.boxR w.heap.size 26 #[.string name, .slice a xs.length c, .int .i64 auto], L4.boxR (w.heap.size + 1) 9 #[.string f], Bag.bag ([rowI (some ⟨g3, 0, none⟩) lc zs] ++ (rowsI zs)), Bag.bag ([])] from Bag.bag_join S9.out 2 3 (by decide) rfl rfl)
    clear S9
    exact ⟨some ⟨g3, 0, none⟩, lc, zs, by rw [hlz]; rfl, HCZ.out.trans HIDX.out.symm, Bag.bag_from S10.out 2 rfl, S10.out.old⟩
end Go.Proofs.Ytmnedjhfibmcnaa.L7

