/-
  What the law FnDeletions needs, laid by my program lawpack.py, part 3: the texts L6Se, L6Sf, L6Sg, L6Sx, L6Fin, Run, L5Cp, L6Ia, L4Im2, L4Im1, L4Im3, L4Arr, one behind the other; each begins with its own words.
-/
import Derived.Test.YtmnedjhfibmcnaaFnDeletionsP2
set_option linter.unusedSimpArgs false
/-
  The contract of chapter 6's PutItem of the specification. Conditions: keys' texts of at most 2^40 bytes, at most 2^20 fields and items. (Written by my program gen_l6e.py.)
-/
namespace Go.Proofs.Ytmnedjhfibmcnaa.L6
set_option maxRecDepth 100000
open L4 (K isK cmpK R inR encU)
open L5 (F isR isN cellsF encR eqR Small)
open Go.ChangeShapes Go.WideShapes Go.ChangeAt Go.RowKit Mem Sl Ex L2 Sv Bag
set_option linter.unusedVariables false
set_option linter.unusedSimpArgs false

theorem cellsI_set3 : ∀ (xs : List LI) (i : Nat) (hi : i < xs.length) (a : Option Addr) (c : Nat) (l : List F), (cellsI xs).set (i * 4 + 3) (.slice a l.length c) = cellsI (xs.set i ⟨xs[i].k, a, c, l⟩)
  | x :: xs, 0, _, a, c, l => rfl
  | x :: xs, i + 1, h, a, c, l => by
    rw [List.set_cons_succ, cellsI_cons, cellsI_cons, List.getElem_cons_succ, ← cellsI_set3 xs i (by simpa using h) a c l, show (i + 1) * 4 + 3 = i * 4 + 3 + 1 + 1 + 1 + 1 by omega]
    rfl
theorem cellsI_set3m (xs : List LI) (i : Nat) (hi : i < xs.length) (a : Option Addr) (c : Nat) (l : List F) (M : Nat) (hM : M = l.length) : (cellsI xs).set (i * 4 + 3) (.slice a M c) = cellsI (xs.set i ⟨xs[i].k, a, c, l⟩) := by
  subst hM
  exact cellsI_set3 xs i hi a c l
theorem bag_swap {W w : World} {rs : List Res} {xs : List RowS} {z : RowS} (h : Sep W w rs) (j : Nat) (hj : rs[j]? = some (bag (xs ++ [z]))) (i : Nat) (hi : i < xs.length) : Sep W w (rs.set j (bag (xs.set i z))) := by
  have e1 : xs.set i z = xs.take i ++ z :: xs.drop (i + 1) := List.set_eq_take_append_cons_drop ▸ by rw [if_pos hi]
  have e2 : xs.eraseIdx i = xs.take i ++ xs.drop (i + 1) := List.eraseIdx_eq_take_drop_succ ..
  have hp : (xs.eraseIdx i ++ [z]).Perm (xs.set i z) := by
    rw [e1, e2, List.append_assoc]
    refine List.Perm.append_left _ ?_
    exact List.perm_append_comm
  have hs : (xs.eraseIdx i ++ [z]).Sublist (xs ++ [z]) := (List.eraseIdx_sublist xs i).append (List.Sublist.refl _)
  refine turn h j hj (fun ho => (BagOwn.sub ho hs).perm hp) (fun b hb => ?_)
  obtain ⟨r, hr, hm⟩ := List.mem_flatMap.1 hb
  exact List.mem_flatMap.2 ⟨r, hs.subset (hp.mem_iff.2 hr), hm⟩
theorem rowsI_ins (ys : List LI) (k : Nat) (z : LI) : (rowsI ys ++ [z.row]).Perm (rowsI (ys.take k ++ z :: ys.drop k)) := by
  have e : rowsI ys = rowsI (ys.take k) ++ rowsI (ys.drop k) := by rw [← rowsI_append, List.take_append_drop]
  rw [e, rowsI_append, List.append_assoc]
  exact List.Perm.append_left _ List.perm_append_comm
theorem cellsI_take : ∀ (ys : List LI) (k : Nat), (cellsI ys).take (k * 4) = cellsI (ys.take k)
  | [], k => by simp [cellsI]
  | y :: ys, 0 => by simp [cellsI]
  | y :: ys, k + 1 => by
    rw [List.take_succ_cons, cellsI_cons, cellsI_cons, ← cellsI_take ys k, show (k + 1) * 4 = k * 4 + 1 + 1 + 1 + 1 by omega]
    rfl
theorem cellsI_drop : ∀ (ys : List LI) (k : Nat), (cellsI ys).drop (k * 4) = cellsI (ys.drop k)
  | [], k => by simp [cellsI]
  | y :: ys, 0 => by simp
  | y :: ys, k + 1 => by
    rw [List.drop_succ_cons, cellsI_cons, ← cellsI_drop ys k, show (k + 1) * 4 = k * 4 + 1 + 1 + 1 + 1 by omega]
    rfl
theorem reads_head {w : World} {B : Nat} {a : Option Addr} {ys : List LI} (h : Reads w B a (cellsI ys)) (k : Nat) : Reads w B a (cellsI (ys.take k)) := fun j hj => by
  have hk : cellsI (ys.take k) = (cellsI ys).take (k * 4) := (cellsI_take ys k).symm
  have h2 : (cellsI (ys.take k))[j] = ((cellsI ys).take (k * 4))[j]'(by rw [← hk]; exact hj) := by simp only [hk]
  have h3 : j < (cellsI ys).length := by rw [hk, List.length_take] at hj; omega
  obtain ⟨ad, e, hb, hc⟩ := h j h3
  exact ⟨ad, e, hb, by rw [hc, h2, List.getElem_take]⟩
theorem reads_tail {w : World} {B : Nat} {ad : Addr} {ys : List LI} (h : Reads w B (some ad) (cellsI ys)) (k : Nat) : Reads w B (some (ad.add (k * 4))) (cellsI (ys.drop k)) := fun j hj => by
  have hk : cellsI (ys.drop k) = (cellsI ys).drop (k * 4) := (cellsI_drop ys k).symm
  have h2 : (cellsI (ys.drop k))[j] = ((cellsI ys).drop (k * 4))[j]'(by rw [← hk]; exact hj) := by simp only [hk]
  have h3 : k * 4 + j < (cellsI ys).length := by rw [hk, List.length_drop] at hj; omega
  obtain ⟨ad', e, hb, hc⟩ := h (k * 4 + j) h3
  injection e with e
  subst e
  exact ⟨ad.add (k * 4), rfl, by rw [add_block]; exact hb, by rw [add_add, hc, h2, List.getElem_drop]⟩
theorem reads_rest2 {w : World} {B g : Nat} {ys : List LI} (h : Reads w B (some ⟨g, 0, none⟩) (cellsI ys)) (k : Nat) : Reads w B (some ⟨g, k * 4, none⟩) (cellsI (ys.drop k)) := by
  have := reads_tail h k
  rwa [Addr.add_lit, Nat.zero_add] at this
theorem rowsI_set (xs : List LI) (i : Nat) (z : LI) : rowsI (xs.set i z) = (rowsI xs).set i z.row := List.map_set
theorem conI_ins (ys : List LI) (k : Nat) (z : LI) : conI (ys.take k ++ z :: ys.drop k) = (conI ys).take k ++ z.con :: (conI ys).drop k := by
  unfold conI
  rw [List.map_append, List.map_cons, List.map_take, List.map_drop]
theorem conI_set (xs : List LI) (i : Nat) (z : LI) : conI (xs.set i z) = (conI xs).set i z.con := List.map_set

set_option maxHeartbeats 16000000 in
theorem specPutItem_any (y : LS) (k0 : K) (ra : Option Addr) (rc : Nat) (rl : List F) (hf : FitS y.con) (hkt : k0.text.size ≤ 1099511627776) (hrl : rl.length ≤ 1048576) (hrs : Small rl) (w : World) (hr : RowsRd w w.heap.size y.rows) (hrr : Reads w w.heap.size ra (cellsF rl)) :
    Calls Try.prog 134 #[y.v, k0.v, .agg #[.slice ra rl.length rc]] w (GaveSB w (putI y.con k0 rl).1 (putI y.con k0 rl).2) := by
  obtain ⟨i0, hi1, hi2, hi3, hi4⟩ := itemInfo
  have HI := Lib.hid (And.intro hi1 (And.intro hi2 (And.intro hi3 hi4)))
  clear hi1 hi2 hi3 hi4
  obtain ⟨pk, pn, pt⟩ := k0
  unfold L4.K.v
  try dsimp only at hkt ⊢
  have HIS := Lib.hid (fun w' (h : Below w.heap.size w w') => specIsStore_any y hf w' ((hr.below h).more h.size))
  have HCP := Lib.hid (fun w' (h : Below w.heap.size w w') => l6Copy_any y hf w' ((hr.below h).more h.size))
  have HFD := Lib.hid (fun w' (h : Below w.heap.size w w') => specFindItem_any y ⟨pk, pn, pt⟩ hf w' ((hr.below h).more h.size))
  have HRC := Lib.hid (fun w' (h : Below w.heap.size w w') => L5.l5Copy_any ra rc rl (by omega) w' ((hrr.below h).more h.size))
  have HIR := Lib.hid (fun w' (h : Below w.heap.size w w') => L5.specIsRecord_any ra rc rl (by omega) hrs w' ((hrr.below h).more h.size))
  have HIK := Lib.hid (fun w' => L4.specIsKey_any ⟨pk, pn, pt⟩ (by show pt.size ≤ _; omega) w')
  obtain ⟨name, a, c, xs, auto⟩ := y
  have HR := Lib.hid (fun w' (h : Below w.heap.size w w') => LS.outer (hr.below h))
  have HX := Lib.hid (fun w' (h : Below w.heap.size w w') => (LS.inner (hr.below h)).more h.size)
  have HF := Lib.hid hf.items
  have HNM := Lib.hid hf.name
  have hl := hf.len
  simp only [LS.con, conI_length] at hl
  dsimp only [LS.con] at HR HX HF HNM
  try unfold LS.v LS.cells LS.con
  try dsimp only
  obtain ⟨N, hN⟩ : ∃ n, n = xs.length := ⟨_, rfl⟩
  rw [← hN] at hl ⊢
  have hl' : (N : Int) ≤ 1048576 := by omega
  have HN := Lib.hid hN
  clear hN hr hf
  dsimp only [LS.v, LS.cells, LS.con] at HIS HCP HFD
  rw [← HN.out] at HIS HCP HFD
  obtain ⟨M, hM⟩ : ∃ M, M = rl.length := ⟨_, rfl⟩
  rw [← hM] at HRC HIR ⊢
  have HM := Lib.hid hM
  clear hM hrr
  obtain ⟨bs, hbs⟩ : ∃ b, isS ⟨name, conI xs, auto⟩ = b := ⟨_, rfl⟩
  obtain ⟨bk, hbk⟩ : ∃ b, isK ⟨pk, pn, pt⟩ = b := ⟨_, rfl⟩
  obtain ⟨br, hbr⟩ : ∃ b, isR rl = b := ⟨_, rfl⟩
  rw [hbs] at HIS
  rw [hbk] at HIK
  rw [hbr] at HIR
  obtain ⟨res, hres⟩ : ∃ r, putI ⟨name, conI xs, auto⟩ ⟨pk, pn, pt⟩ rl = r := ⟨_, rfl⟩
  rw [hres]
  have HBS := Lib.hid hbs
  have HP := Lib.hid (show res = if bs && (bk && br) then (match fndO (conI xs) ⟨pk, pn, pt⟩ with | some i => (⟨name, (conI xs).set i ⟨⟨pk, pn, pt⟩, rl⟩, auto⟩, true) | none => if 16 ≤ (conI xs).length then (⟨name, conI xs, auto⟩, false) else (⟨name, (conI xs).take (posI (conI xs) ⟨pk, pn, pt⟩) ++ ⟨⟨pk, pn, pt⟩, rl⟩ :: (conI xs).drop (posI (conI xs) ⟨pk, pn, pt⟩), nextAuto auto ⟨pk, pn, pt⟩⟩, true)) else (⟨name, conI xs, auto⟩, false) from by rw [← hres]; unfold putI; rw [hbs, hbk, hbr]; rfl)
  clear hres hbs hbk hbr
  have S1 := Lib.hid (show Sl.Sep w ((((w.alloc (.cells #[.string name, .slice a N c, .int .i64 auto] 26)).alloc (.cells #[.int .i64 pk, .int .i64 pn, .string pt] 28)).alloc (.cells #[.slice ra M rc] 41)).alloc (.cells #[.string ⟨#[]⟩, .slice none 0 0, .int .i64 0] 26)) [L4.boxR w.heap.size 26 #[.string name, .slice a N c, .int .i64 auto], L4.boxR (w.heap.size + 1) 28 #[.int .i64 pk, .int .i64 pn, .string pt], L4.boxR (w.heap.size + 1 + 1) 41 #[.slice ra M rc], L4.boxR (w.heap.size + 1 + 1 + 1) 26 #[.string ⟨#[]⟩, .slice none 0 0, .int .i64 0]] from L4.push_box (L4.push_box (L4.push_box (L4.push_box (Sl.Sep.start w) 26 #[.string name, .slice a N c, .int .i64 auto] (w.heap.size) (by simp)) 28 #[.int .i64 pk, .int .i64 pn, .string pt] (w.heap.size + 1) (by simp)) 41 #[.slice ra M rc] (w.heap.size + 1 + 1) (by simp)) 26 #[.string ⟨#[]⟩, .slice none 0 0, .int .i64 0] (w.heap.size + 1 + 1 + 1) (by simp))
  obtain ⟨wa, hwa⟩ : ∃ u, u = ((((w.alloc (.cells #[.string name, .slice a N c, .int .i64 auto] 26)).alloc (.cells #[.int .i64 pk, .int .i64 pn, .string pt] 28)).alloc (.cells #[.slice ra M rc] 41)).alloc (.cells #[.string ⟨#[]⟩, .slice none 0 0, .int .i64 0] 26)) := ⟨_, rfl⟩
  rw [← hwa] at S1
  go_enter Try.func134, Try.ntmps134
  go_upto_region 1 with fail
  rw [← hwa]
  clear hwa
  have hh := Bag.cs3 S1.out 0 rfl
  have f0 := hh.1; have f1 := hh.2.1; have f2 := hh.2.2; clear hh
  have hh := Bag.cs3 S1.out 1 rfl
  have f3 := hh.1; have f4 := hh.2.1; have f5 := hh.2.2; clear hh
  have f6 := Bag.cs1 S1.out 2 rfl
  have hh := Bag.cs3 S1.out 3 rfl
  have f7 := hh.1; have f8 := hh.2.1; have f9 := hh.2.2; clear hh
  go_wp2_with fail
  go_at_call 17
  refine (HIS.out _ S1.out.old).mono ?_
  rintro e w1 ⟨rfl, hb⟩
  clear f0 f1 f2 f3 f4 f5 f6 f7 f8 f9
  have S2 := Lib.hid (S1.out.keep hb)
  clear S1
  clear hb
  have hh := Bag.cs3 S2.out 0 rfl
  have f0 := hh.1; have f1 := hh.2.1; have f2 := hh.2.2; clear hh
  have hh := Bag.cs3 S2.out 1 rfl
  have f3 := hh.1; have f4 := hh.2.1; have f5 := hh.2.2; clear hh
  have f6 := Bag.cs1 S2.out 2 rfl
  have hh := Bag.cs3 S2.out 3 rfl
  have f7 := hh.1; have f8 := hh.2.1; have f9 := hh.2.2; clear hh
  cases bs with
  | false =>
    go_wp2_with fail
    go_at_call 139
    refine (HCP.out _ S2.out.old).mono ?_
    rintro e w2 ⟨⟨nm3, a3, c3, ys, au3⟩, rfl, hcon, ho, hb⟩
    clear f0 f1 f2 f3 f4 f5 f6 f7 f8 f9
    have S3 := Lib.hid (show Sl.Sep w _ [L4.boxR w.heap.size 26 #[.string name, .slice a N c, .int .i64 auto], L4.boxR (w.heap.size + 1) 28 #[.int .i64 pk, .int .i64 pn, .string pt], L4.boxR (w.heap.size + 1 + 1) 41 #[.slice ra M rc], L4.boxR (w.heap.size + 1 + 1 + 1) 26 #[.string ⟨#[]⟩, .slice none 0 0, .int .i64 0], Bag.bag ((LS.mk nm3 a3 c3 ys au3).rows)] from Bag.push_bag S2.out hb ho)
    clear S2
    clear hb ho
    have HCON := Lib.hid hcon
    clear hcon
    simp only [LS.v, LS.cells]
    have hh := Bag.cs3 S3.out 3 rfl
    have f0 := hh.1; have f1 := hh.2.1; have f2 := hh.2.2; clear hh
    have hh := Bag.fs3 S3.out 3 rfl
    have z0 := hh.1; have z1 := hh.2.1; have z2 := hh.2.2; clear hh
    go_wp2_with fail
    clear f0 f1 f2 z0 z1 z2
    have S4 := Lib.hid (show Sl.Sep w _ [L4.boxR w.heap.size 26 #[.string name, .slice a N c, .int .i64 auto], L4.boxR (w.heap.size + 1) 28 #[.int .i64 pk, .int .i64 pn, .string pt], L4.boxR (w.heap.size + 1 + 1) 41 #[.slice ra M rc], L4.boxR (w.heap.size + 1 + 1 + 1) 26 #[.string nm3, .slice a3 ys.length c3, .int .i64 au3], Bag.bag ((LS.mk nm3 a3 c3 ys au3).rows)] from L5.put_box5 (L5.put_box5 (L5.put_box5 (S3.out) 3 rfl 0 (.string nm3)) 3 rfl 1 (.slice a3 ys.length c3)) 3 rfl 2 (.int .i64 au3))
    clear S3
    have hh := Bag.cs3 S4.out 3 rfl
    have f0 := hh.1; have f1 := hh.2.1; have f2 := hh.2.2; clear hh
    refine bodyPost_ret (v := .tuple #[.agg #[.string nm3, .slice a3 ys.length c3, .int .i64 au3], .bool false]) (by simp [results, Try.results134, go_sem, *]) rfl ?_
    have HE := Lib.hid (show res = (⟨name, conI xs, auto⟩, false) from by rw [HP.out]; rfl)
    exact ⟨⟨nm3, a3, c3, ys, au3⟩, by rw [HE.out]; rfl, by rw [HE.out]; exact HCON.out, Bag.bag_from S4.out 4 rfl, S4.out.old⟩
  | true =>
    go_wp2_with fail
    go_at_call 68
    refine (HIK.out _).mono ?_
    rintro e w2 ⟨rfl, hb⟩
    clear f0 f1 f2 f3 f4 f5 f6 f7 f8 f9
    have S3 := Lib.hid (S2.out.keep hb)
    clear S2
    clear hb
    have hh := Bag.cs3 S3.out 0 rfl
    have f0 := hh.1; have f1 := hh.2.1; have f2 := hh.2.2; clear hh
    have hh := Bag.cs3 S3.out 1 rfl
    have f3 := hh.1; have f4 := hh.2.1; have f5 := hh.2.2; clear hh
    have f6 := Bag.cs1 S3.out 2 rfl
    have hh := Bag.cs3 S3.out 3 rfl
    have f7 := hh.1; have f8 := hh.2.1; have f9 := hh.2.2; clear hh
    cases bk with
    | false =>
      go_wp2_with fail
      go_at_call 139
      refine (HCP.out _ S3.out.old).mono ?_
      rintro e w3 ⟨⟨nm3, a3, c3, ys, au3⟩, rfl, hcon, ho, hb⟩
      clear f0 f1 f2 f3 f4 f5 f6 f7 f8 f9
      have S4 := Lib.hid (show Sl.Sep w _ [L4.boxR w.heap.size 26 #[.string name, .slice a N c, .int .i64 auto], L4.boxR (w.heap.size + 1) 28 #[.int .i64 pk, .int .i64 pn, .string pt], L4.boxR (w.heap.size + 1 + 1) 41 #[.slice ra M rc], L4.boxR (w.heap.size + 1 + 1 + 1) 26 #[.string ⟨#[]⟩, .slice none 0 0, .int .i64 0], Bag.bag ((LS.mk nm3 a3 c3 ys au3).rows)] from Bag.push_bag S3.out hb ho)
      clear S3
      clear hb ho
      have HCON := Lib.hid hcon
      clear hcon
      simp only [LS.v, LS.cells]
      have hh := Bag.cs3 S4.out 3 rfl
      have f0 := hh.1; have f1 := hh.2.1; have f2 := hh.2.2; clear hh
      have hh := Bag.fs3 S4.out 3 rfl
      have z0 := hh.1; have z1 := hh.2.1; have z2 := hh.2.2; clear hh
      go_wp2_with fail
      clear f0 f1 f2 z0 z1 z2
      have S5 := Lib.hid (show Sl.Sep w _ [L4.boxR w.heap.size 26 #[.string name, .slice a N c, .int .i64 auto], L4.boxR (w.heap.size + 1) 28 #[.int .i64 pk, .int .i64 pn, .string pt], L4.boxR (w.heap.size + 1 + 1) 41 #[.slice ra M rc], L4.boxR (w.heap.size + 1 + 1 + 1) 26 #[.string nm3, .slice a3 ys.length c3, .int .i64 au3], Bag.bag ((LS.mk nm3 a3 c3 ys au3).rows)] from L5.put_box5 (L5.put_box5 (L5.put_box5 (S4.out) 3 rfl 0 (.string nm3)) 3 rfl 1 (.slice a3 ys.length c3)) 3 rfl 2 (.int .i64 au3))
      clear S4
      have hh := Bag.cs3 S5.out 3 rfl
      have f0 := hh.1; have f1 := hh.2.1; have f2 := hh.2.2; clear hh
      refine bodyPost_ret (v := .tuple #[.agg #[.string nm3, .slice a3 ys.length c3, .int .i64 au3], .bool false]) (by simp [results, Try.results134, go_sem, *]) rfl ?_
      have HE := Lib.hid (show res = (⟨name, conI xs, auto⟩, false) from by rw [HP.out]; rfl)
      exact ⟨⟨nm3, a3, c3, ys, au3⟩, by rw [HE.out]; rfl, by rw [HE.out]; exact HCON.out, Bag.bag_from S5.out 4 rfl, S5.out.old⟩
    | true =>
      go_wp2_with fail
      go_at_call 69
      refine (HIR.out _ S3.out.old).mono ?_
      rintro e w3 ⟨rfl, hb⟩
      clear f0 f1 f2 f3 f4 f5 f6 f7 f8 f9
      have S4 := Lib.hid (S3.out.keep hb)
      clear S3
      clear hb
      have hh := Bag.cs3 S4.out 0 rfl
      have f0 := hh.1; have f1 := hh.2.1; have f2 := hh.2.2; clear hh
      have hh := Bag.cs3 S4.out 1 rfl
      have f3 := hh.1; have f4 := hh.2.1; have f5 := hh.2.2; clear hh
      have f6 := Bag.cs1 S4.out 2 rfl
      have hh := Bag.cs3 S4.out 3 rfl
      have f7 := hh.1; have f8 := hh.2.1; have f9 := hh.2.2; clear hh
      cases br with
      | false =>
        go_wp2_with fail
        go_at_call 139
        refine (HCP.out _ S4.out.old).mono ?_
        rintro e w4 ⟨⟨nm3, a3, c3, ys, au3⟩, rfl, hcon, ho, hb⟩
        clear f0 f1 f2 f3 f4 f5 f6 f7 f8 f9
        have S5 := Lib.hid (show Sl.Sep w _ [L4.boxR w.heap.size 26 #[.string name, .slice a N c, .int .i64 auto], L4.boxR (w.heap.size + 1) 28 #[.int .i64 pk, .int .i64 pn, .string pt], L4.boxR (w.heap.size + 1 + 1) 41 #[.slice ra M rc], L4.boxR (w.heap.size + 1 + 1 + 1) 26 #[.string ⟨#[]⟩, .slice none 0 0, .int .i64 0], Bag.bag ((LS.mk nm3 a3 c3 ys au3).rows)] from Bag.push_bag S4.out hb ho)
        clear S4
        clear hb ho
        have HCON := Lib.hid hcon
        clear hcon
        simp only [LS.v, LS.cells]
        have hh := Bag.cs3 S5.out 3 rfl
        have f0 := hh.1; have f1 := hh.2.1; have f2 := hh.2.2; clear hh
        have hh := Bag.fs3 S5.out 3 rfl
        have z0 := hh.1; have z1 := hh.2.1; have z2 := hh.2.2; clear hh
        go_wp2_with fail
        clear f0 f1 f2 z0 z1 z2
        have S6 := Lib.hid (show Sl.Sep w _ [L4.boxR w.heap.size 26 #[.string name, .slice a N c, .int .i64 auto], L4.boxR (w.heap.size + 1) 28 #[.int .i64 pk, .int .i64 pn, .string pt], L4.boxR (w.heap.size + 1 + 1) 41 #[.slice ra M rc], L4.boxR (w.heap.size + 1 + 1 + 1) 26 #[.string nm3, .slice a3 ys.length c3, .int .i64 au3], Bag.bag ((LS.mk nm3 a3 c3 ys au3).rows)] from L5.put_box5 (L5.put_box5 (L5.put_box5 (S5.out) 3 rfl 0 (.string nm3)) 3 rfl 1 (.slice a3 ys.length c3)) 3 rfl 2 (.int .i64 au3))
        clear S5
        have hh := Bag.cs3 S6.out 3 rfl
        have f0 := hh.1; have f1 := hh.2.1; have f2 := hh.2.2; clear hh
        refine bodyPost_ret (v := .tuple #[.agg #[.string nm3, .slice a3 ys.length c3, .int .i64 au3], .bool false]) (by simp [results, Try.results134, go_sem, *]) rfl ?_
        have HE := Lib.hid (show res = (⟨name, conI xs, auto⟩, false) from by rw [HP.out]; rfl)
        exact ⟨⟨nm3, a3, c3, ys, au3⟩, by rw [HE.out]; rfl, by rw [HE.out]; exact HCON.out, Bag.bag_from S6.out 4 rfl, S6.out.old⟩
      | true =>
        replace HP := Lib.hid (show res = _ from HP.out)
        simp only [Bool.and_self, if_true] at HP
        go_wp2_with fail
        go_at_call 139
        refine (HCP.out _ S4.out.old).mono ?_
        rintro e w4 ⟨⟨nm3, a3, c3, ys, au3⟩, rfl, hcon, ho, hb⟩
        clear f0 f1 f2 f3 f4 f5 f6 f7 f8 f9
        have S5 := Lib.hid (show Sl.Sep w _ [L4.boxR w.heap.size 26 #[.string name, .slice a N c, .int .i64 auto], L4.boxR (w.heap.size + 1) 28 #[.int .i64 pk, .int .i64 pn, .string pt], L4.boxR (w.heap.size + 1 + 1) 41 #[.slice ra M rc], L4.boxR (w.heap.size + 1 + 1 + 1) 26 #[.string ⟨#[]⟩, .slice none 0 0, .int .i64 0], Bag.bag ((LS.mk nm3 a3 c3 ys au3).rows)] from Bag.push_bag S4.out hb ho)
        clear S4
        clear hb ho
        have HCON := Lib.hid hcon
        clear hcon
        simp only [LS.v, LS.cells]
        obtain ⟨e1, e2, e3⟩ : nm3 = name ∧ conI ys = conI xs ∧ au3 = auto := by have h := HCON.out; unfold LS.con at h; simp only [S6.mk.injEq] at h; exact h
        subst e1
        subst e3
        have HCE := Lib.hid e2
        have hyl : ys.length = N := by have h := congrArg List.length e2; simp only [conI_length] at h; rw [h]; exact HN.out.symm
        clear e2 HCON
        have hh := Bag.cs3 S5.out 0 rfl
        have f0 := hh.1; have f1 := hh.2.1; have f2 := hh.2.2; clear hh
        have hh := Bag.cs3 S5.out 1 rfl
        have f3 := hh.1; have f4 := hh.2.1; have f5 := hh.2.2; clear hh
        have f6 := Bag.cs1 S5.out 2 rfl
        have hh := Bag.cs3 S5.out 3 rfl
        have f7 := hh.1; have f8 := hh.2.1; have f9 := hh.2.2; clear hh
        rw [hyl]
        go_upto_region 4 with fail
        clear f0 f1 f2 f3 f4 f5 f6 f7 f8 f9
        have S6 := Lib.hid (show Sl.Sep w _ [L4.boxR w.heap.size 26 #[.string nm3, .slice a N c, .int .i64 au3], L4.boxR (w.heap.size + 1) 28 #[.int .i64 pk, .int .i64 pn, .string pt], L4.boxR (w.heap.size + 1 + 1) 41 #[.slice ra M rc], L4.boxR (w.heap.size + 1 + 1 + 1) 26 #[.string ⟨#[]⟩, .slice none 0 0, .int .i64 0], Bag.bag ((LS.mk nm3 a3 c3 ys au3).rows), L4.boxR w4.heap.size 26 #[.string nm3, .slice a3 N c3, .int .i64 au3]] from L4.push_box S5.out 26 #[.string nm3, .slice a3 N c3, .int .i64 au3] w4.heap.size rfl)
        clear S5
        obtain ⟨g1, hg⟩ : ∃ g', g' = w4.heap.size := ⟨_, rfl⟩
        rw [← hg] at S6 ⊢
        clear hg
        generalize w4.alloc (.cells #[.string nm3, .slice a3 N c3, .int .i64 au3] 26) = w5 at S6 ⊢
        have hh := Bag.cs3 S6.out 0 rfl
        have f0 := hh.1; have f1 := hh.2.1; have f2 := hh.2.2; clear hh
        have hh := Bag.cs3 S6.out 1 rfl
        have f3 := hh.1; have f4 := hh.2.1; have f5 := hh.2.2; clear hh
        have f6 := Bag.cs1 S6.out 2 rfl
        have hh := Bag.cs3 S6.out 3 rfl
        have f7 := hh.1; have f8 := hh.2.1; have f9 := hh.2.2; clear hh
        have hh := Bag.cs3 S6.out 5 rfl
        have f10 := hh.1; have f11 := hh.2.1; have f12 := hh.2.2; clear hh
        obtain ⟨fi, hfi⟩ : ∃ i, fndI (conI xs) ⟨pk, pn, pt⟩ = i := ⟨_, rfl⟩
        rw [hfi] at HFD
        have HFI := Lib.hid hfi
        clear hfi
        go_wp2_with fail
        go_at_call 152
        refine (HFD.out _ S6.out.old).mono ?_
        rintro e w6 ⟨rfl, hb⟩
        clear f0 f1 f2 f3 f4 f5 f6 f7 f8 f9 f10 f11 f12
        have S7 := Lib.hid (S6.out.keep hb)
        clear S6
        clear hb
        have hh := Bag.cs3 S7.out 0 rfl
        have f0 := hh.1; have f1 := hh.2.1; have f2 := hh.2.2; clear hh
        have hh := Bag.cs3 S7.out 1 rfl
        have f3 := hh.1; have f4 := hh.2.1; have f5 := hh.2.2; clear hh
        have f6 := Bag.cs1 S7.out 2 rfl
        have hh := Bag.cs3 S7.out 3 rfl
        have f7 := hh.1; have f8 := hh.2.1; have f9 := hh.2.2; clear hh
        have hh := Bag.cs3 S7.out 5 rfl
        have f10 := hh.1; have f11 := hh.2.1; have f12 := hh.2.2; clear hh
        cases hfo : fndO (conI xs) ⟨pk, pn, pt⟩ with
        | some i =>
          have hfi2 : fi = (i : Int) := by have h := HFI.out; unfold fndI at h; rw [hfo] at h; exact h.symm
          obtain ⟨hi, hki⟩ := fndO_some hfo
          subst hfi2
          have hiN : i < N := by rw [conI_length] at hi; have := HN.out; omega
          have hiy : i < ys.length := by omega
          have HE := Lib.hid (show res = (⟨nm3, (conI xs).set i ⟨⟨pk, pn, pt⟩, rl⟩, au3⟩, true) from by rw [HP.out, hfo])
          have HKI := Lib.hid (show ys[i].k = ⟨pk, pn, pt⟩ from by have h1 := con_of (List.getElem?_eq_getElem hiy); rw [HCE.out, List.getElem?_eq_getElem hi] at h1; have h2 := Option.some.inj h1; rw [h2] at hki; exact hki)
          clear hfo hki hi
          have hii : ((i : Nat) : Int) < (N : Int) := by omega
          clear f0 f1 f2 f3 f4 f5 f6 f7 f8 f9 f10 f11 f12
          have S8 := Lib.hid (show Sl.Sep w _ [L4.boxR w.heap.size 26 #[.string nm3, .slice a N c, .int .i64 au3], L4.boxR (w.heap.size + 1) 28 #[.int .i64 pk, .int .i64 pn, .string pt], L4.boxR (w.heap.size + 1 + 1) 41 #[.slice ra M rc], L4.boxR (w.heap.size + 1 + 1 + 1) 26 #[.string ⟨#[]⟩, .slice none 0 0, .int .i64 0], Bag.bag ([rowI a3 c3 ys] ++ rowsI ys), L4.boxR g1 26 #[.string nm3, .slice a3 N c3, .int .i64 au3]] from S7.out)
          clear S7
          have S9 := Lib.hid (show Sl.Sep w _ [L4.boxR w.heap.size 26 #[.string nm3, .slice a N c, .int .i64 au3], L4.boxR (w.heap.size + 1) 28 #[.int .i64 pk, .int .i64 pn, .string pt], L4.boxR (w.heap.size + 1 + 1) 41 #[.slice ra M rc], L4.boxR (w.heap.size + 1 + 1 + 1) 26 #[.string ⟨#[]⟩, .slice none 0 0, .int .i64 0], Bag.bag ([rowI a3 c3 ys]), L4.boxR g1 26 #[.string nm3, .slice a3 N c3, .int .i64 au3], Bag.bag (rowsI ys)] from Bag.bag_split S8.out 4 rfl)
          clear S8
          have S10 := Lib.hid (show Sl.Sep w _ [L4.boxR w.heap.size 26 #[.string nm3, .slice a N c, .int .i64 au3], L4.boxR (w.heap.size + 1) 28 #[.int .i64 pk, .int .i64 pn, .string pt], L4.boxR (w.heap.size + 1 + 1) 41 #[.slice ra M rc], L4.boxR (w.heap.size + 1 + 1 + 1) 26 #[.string ⟨#[]⟩, .slice none 0 0, .int .i64 0], Sv.ownV 43 4 a3 c3 N (cellsI ys), L4.boxR g1 26 #[.string nm3, .slice a3 N c3, .int .i64 au3], Bag.bag (rowsI ys)] from (by have h := Bag.one_of_bag S9.out 4 (r := rowI a3 c3 ys) rfl; unfold RowS.res rowI at h; dsimp only at h; rw [hyl] at h; exact h))
          clear S9
          obtain ⟨g3, rfl⟩ : ∃ g, a3 = some ⟨g, 0, none⟩ := by
            rcases (Sv.own_at S10.out 4 rfl).form with ⟨_, h0, _⟩ | ⟨g, e, _⟩
            · omega
            · exact ⟨g, e⟩
          have hh := Bag.cs3 S10.out 0 rfl
          have f0 := hh.1; have f1 := hh.2.1; have f2 := hh.2.2; clear hh
          have hh := Bag.cs3 S10.out 1 rfl
          have f3 := hh.1; have f4 := hh.2.1; have f5 := hh.2.2; clear hh
          have f6 := Bag.cs1 S10.out 2 rfl
          have hh := Bag.cs3 S10.out 3 rfl
          have f7 := hh.1; have f8 := hh.2.1; have f9 := hh.2.2; clear hh
          have hh := Bag.cs3 S10.out 5 rfl
          have f10 := hh.1; have f11 := hh.2.1; have f12 := hh.2.2; clear hh
          go_upto_region 6 with fail
          clear f0 f1 f2 f3 f4 f5 f6 f7 f8 f9 f10 f11 f12
          refine wp_region_held_drew (S := (fun w' => (World.cell? w' ⟨w.heap.size + 1 + 1, 0, none⟩ = some (.slice ra M rc)) ∧ (World.cell? w' ⟨g1, 0, none⟩ = some (.string nm3) ∧ World.cell? w' ⟨g1, 1, none⟩ = some (.slice (some ⟨g3, 0, none⟩) N c3) ∧ World.cell? w' ⟨g1, 2, none⟩ = some (.int .i64 au3)))) (by kernel_rfl) ⟨Bag.cs1 (Bag.drew1 S10.out) 2 rfl, Bag.cs3 (Bag.drew1 S10.out) 5 rfl⟩ (fun hS => ?_)
          have S11 := Lib.hid (show Sl.Sep w _ [L4.boxR w.heap.size 26 #[.string nm3, .slice a N c, .int .i64 au3], L4.boxR (w.heap.size + 1) 28 #[.int .i64 pk, .int .i64 pn, .string pt], L4.boxR (w.heap.size + 1 + 1) 41 #[.slice ra M rc], L4.boxR (w.heap.size + 1 + 1 + 1) 26 #[.string ⟨#[]⟩, .slice none 0 0, .int .i64 0], Sv.ownV 43 4 (some ⟨g3, 0, none⟩) c3 N (cellsI ys), L4.boxR g1 26 #[.string nm3, .slice (some ⟨g3, 0, none⟩) N c3, .int .i64 au3], Bag.bag (rowsI ys)] from Bag.drew1 S10.out)
          clear S10
          generalize World.drew _ = w7 at hS S11 ⊢
          refine tk 0 rfl ?_
          try simp only [zp0, zp1, zp2, zp3, zp4]
          refine tk 1 rfl ?_
          try simp only [zp0, zp1, zp2, zp3, zp4]
          refine tk 2 rfl ?_
          try simp only [zp0, zp1, zp2, zp3, zp4]
          refine tk 3 rfl ?_
          try simp only [zp0, zp1, zp2, zp3, zp4]
          refine Reg.one_op (i := 4) rfl (by kernel_rfl) (fun K hK => ?_)
          go_simp
          go_at_call 128
          refine (HRC.out _ S11.out.old).mono ?_
          rintro e w8 ⟨a1, c1, rfl, ho, hb⟩
          have S12 := Lib.hid (show Sl.Sep w _ [L4.boxR w.heap.size 26 #[.string nm3, .slice a N c, .int .i64 au3], L4.boxR (w.heap.size + 1) 28 #[.int .i64 pk, .int .i64 pn, .string pt], L4.boxR (w.heap.size + 1 + 1) 41 #[.slice ra M rc], L4.boxR (w.heap.size + 1 + 1 + 1) 26 #[.string ⟨#[]⟩, .slice none 0 0, .int .i64 0], Sv.ownV 43 4 (some ⟨g3, 0, none⟩) c3 N (cellsI ys), L4.boxR g1 26 #[.string nm3, .slice (some ⟨g3, 0, none⟩) N c3, .int .i64 au3], Bag.bag (rowsI ys), Sv.ownV 107 2 a1 c1 M (cellsF rl)] from Sv.push_own S11.out hb ho)
          clear S11
          clear hb ho
          go_wp2_with fail
          refine hK.out _ _ ⟨Bag.cs1 S12.out 2 rfl, Bag.cs3 S12.out 5 rfl⟩ (fun hS => ?_)
          clear hK K
          try simp only [zp0, zp1, zp2, zp3, zp4]
          refine tk 5 rfl ?_
          try simp only [zp0, zp1, zp2, zp3, zp4]
          refine tk 6 rfl ?_
          try simp only [zp0, zp1, zp2, zp3, zp4]
          refine Reg.one_op (i := 7) rfl (by kernel_rfl) (fun K hK => ?_)
          have q0 := (Sv.own_at S12.out 4 rfl).cell (i * 4 + 3) (by rw [cellsI_length]; omega)
          have q1 := (Sv.own_at S12.out 4 rfl).free (i * 4 + 3)
          go_simp
          clear q0 q1
          have S13 := Lib.hid (show Sl.Sep w (w8.setCell ⟨g3, i * 4 + 3, none⟩ (.slice a1 M c1)) [L4.boxR w.heap.size 26 #[.string nm3, .slice a N c, .int .i64 au3], L4.boxR (w.heap.size + 1) 28 #[.int .i64 pk, .int .i64 pn, .string pt], L4.boxR (w.heap.size + 1 + 1) 41 #[.slice ra M rc], L4.boxR (w.heap.size + 1 + 1 + 1) 26 #[.string ⟨#[]⟩, .slice none 0 0, .int .i64 0], Sv.ownV 43 4 (some ⟨g3, 0, none⟩) c3 N (cellsI (ys.set i ⟨ys[i].k, a1, c1, rl⟩)), L4.boxR g1 26 #[.string nm3, .slice (some ⟨g3, 0, none⟩) N c3, .int .i64 au3], Bag.bag (rowsI ys), Sv.ownV 107 2 a1 c1 M (cellsF rl)] from (by have h := Sv.set_own S12.out 4 rfl (i * 4 + 3) (by rw [cellsI_length]; omega) (.slice a1 M c1); rw [cellsI_set3m ys i hiy a1 c1 rl M HM.out] at h; exact h))
          clear S12
          refine hK.out _ _ ⟨Bag.cs1 S13.out 2 rfl, Bag.cs3 S13.out 5 rfl⟩ (fun hS => ?_)
          clear hK K
          try simp only [zp0, zp1, zp2, zp3, zp4]
          refine wpAnyH_done (by kernel_rfl) ?_ _
          have hh := Bag.cs3 S13.out 0 rfl
          have f0 := hh.1; have f1 := hh.2.1; have f2 := hh.2.2; clear hh
          have hh := Bag.cs3 S13.out 1 rfl
          have f3 := hh.1; have f4 := hh.2.1; have f5 := hh.2.2; clear hh
          have f6 := Bag.cs1 S13.out 2 rfl
          have hh := Bag.cs3 S13.out 3 rfl
          have f7 := hh.1; have f8 := hh.2.1; have f9 := hh.2.2; clear hh
          have hh := Bag.cs3 S13.out 5 rfl
          have f10 := hh.1; have f11 := hh.2.1; have f12 := hh.2.2; clear hh
          clear f0 f1 f2 f3 f4 f5 f6 f7 f8 f9 f10 f11 f12
          have hh := Bag.cs3 S13.out 3 rfl
          have f0 := hh.1; have f1 := hh.2.1; have f2 := hh.2.2; clear hh
          have hh := Bag.cs3 S13.out 5 rfl
          have f3 := hh.1; have f4 := hh.2.1; have f5 := hh.2.2; clear hh
          have hh := Bag.fs3 S13.out 3 rfl
          have z0 := hh.1; have z1 := hh.2.1; have z2 := hh.2.2; clear hh
          go_wp2_with fail
          clear f0 f1 f2 f3 f4 f5 z0 z1 z2
          have S14 := Lib.hid (show Sl.Sep w _ [L4.boxR w.heap.size 26 #[.string nm3, .slice a N c, .int .i64 au3], L4.boxR (w.heap.size + 1) 28 #[.int .i64 pk, .int .i64 pn, .string pt], L4.boxR (w.heap.size + 1 + 1) 41 #[.slice ra M rc], L4.boxR (w.heap.size + 1 + 1 + 1) 26 #[.string nm3, .slice (some ⟨g3, 0, none⟩) N c3, .int .i64 au3], Sv.ownV 43 4 (some ⟨g3, 0, none⟩) c3 N (cellsI (ys.set i ⟨ys[i].k, a1, c1, rl⟩)), L4.boxR g1 26 #[.string nm3, .slice (some ⟨g3, 0, none⟩) N c3, .int .i64 au3], Bag.bag (rowsI ys), Sv.ownV 107 2 a1 c1 M (cellsF rl)] from L5.put_box5 (L5.put_box5 (L5.put_box5 (S13.out) 3 rfl 0 (.string nm3)) 3 rfl 1 (.slice (some ⟨g3, 0, none⟩) N c3)) 3 rfl 2 (.int .i64 au3))
          clear S13
          have hh := Bag.cs3 S14.out 3 rfl
          have f0 := hh.1; have f1 := hh.2.1; have f2 := hh.2.2; clear hh
          refine bodyPost_ret (v := .tuple #[.agg #[.string nm3, .slice (some ⟨g3, 0, none⟩) N c3, .int .i64 au3], .bool true]) (by simp [results, Try.results134, go_sem, *]) rfl ?_
          clear f0 f1 f2
          have hM := HM.out
          subst hM
          have S90 := Lib.hid (Bag.bag_of_one S14.out 7 (r := (LI.mk ys[i].k a1 c1 rl).row) rfl)
          have S91 := Lib.hid (Bag.bag_join S90.out 6 7 (by decide) rfl rfl)
          have S92 := Lib.hid (bag_swap S91.out 6 rfl i (by unfold rowsI; rw [List.length_map]; exact hiy))
          have S93 := Lib.hid (Bag.bag_of_one S92.out 4 (r := rowI (some ⟨g3, 0, none⟩) c3 (ys.set i ⟨ys[i].k, a1, c1, rl⟩)) (by unfold RowS.res rowI; dsimp only; rw [List.length_set, hyl]; rfl))
          have S94 := Lib.hid (Bag.bag_join S93.out 4 6 (by decide) rfl rfl)
          refine ⟨⟨nm3, some ⟨g3, 0, none⟩, c3, ys.set i ⟨ys[i].k, a1, c1, rl⟩, au3⟩, ?_, ?_, ?_, S94.out.old⟩
          · rw [HE.out]; unfold LS.v LS.cells; dsimp only; rw [List.length_set, hyl]
          · rw [HE.out]; unfold LS.con; dsimp only; rw [conI_set, HCE.out]; unfold LI.con; dsimp only; rw [HKI.out]
          · have h := Bag.bag_from S94.out 4 rfl
            unfold LS.rows; rw [rowsI_set]; exact h
        | none =>
          have hfi2 : fi = -1 := by have h := HFI.out; unfold fndI at h; rw [hfo] at h; exact h.symm
          subst hfi2
          by_cases h16 : (16 : Int) ≤ (N : Int)
          · have HE := Lib.hid (show res = (⟨nm3, conI xs, au3⟩, false) from by rw [HP.out, hfo]; dsimp only; rw [if_pos (by rw [conI_length, ← HN.out]; omega)])
            clear hfo
            go_upto_region 9 with fail
            clear f0 f1 f2 f3 f4 f5 f6 f7 f8 f9 f10 f11 f12
            have hh := Bag.cs3 S7.out 3 rfl
            have f0 := hh.1; have f1 := hh.2.1; have f2 := hh.2.2; clear hh
            have hh := Bag.cs3 S7.out 5 rfl
            have f3 := hh.1; have f4 := hh.2.1; have f5 := hh.2.2; clear hh
            have hh := Bag.fs3 S7.out 3 rfl
            have z0 := hh.1; have z1 := hh.2.1; have z2 := hh.2.2; clear hh
            go_wp2_with fail
            clear f0 f1 f2 f3 f4 f5 z0 z1 z2
            have S8 := Lib.hid (show Sl.Sep w _ [L4.boxR w.heap.size 26 #[.string nm3, .slice a N c, .int .i64 au3], L4.boxR (w.heap.size + 1) 28 #[.int .i64 pk, .int .i64 pn, .string pt], L4.boxR (w.heap.size + 1 + 1) 41 #[.slice ra M rc], L4.boxR (w.heap.size + 1 + 1 + 1) 26 #[.string nm3, .slice a3 N c3, .int .i64 au3], Bag.bag ((LS.mk nm3 a3 c3 ys au3).rows), L4.boxR g1 26 #[.string nm3, .slice a3 N c3, .int .i64 au3]] from L5.put_box5 (L5.put_box5 (L5.put_box5 (S7.out) 3 rfl 0 (.string nm3)) 3 rfl 1 (.slice a3 N c3)) 3 rfl 2 (.int .i64 au3))
            clear S7
            have hh := Bag.cs3 S8.out 3 rfl
            have f0 := hh.1; have f1 := hh.2.1; have f2 := hh.2.2; clear hh
            refine bodyPost_ret (v := .tuple #[.agg #[.string nm3, .slice a3 N c3, .int .i64 au3], .bool false]) (by simp [results, Try.results134, go_sem, *]) rfl ?_
            clear f0 f1 f2
            exact ⟨⟨nm3, a3, c3, ys, au3⟩, by rw [HE.out]; unfold LS.v LS.cells; dsimp only; rw [hyl], by rw [HE.out]; unfold LS.con; dsimp only; rw [HCE.out], Bag.bag_from S8.out 4 rfl, S8.out.old⟩
          · skip
            have HE := Lib.hid (show res = (⟨nm3, (conI xs).take (posI (conI xs) ⟨pk, pn, pt⟩) ++ ⟨⟨pk, pn, pt⟩, rl⟩ :: (conI xs).drop (posI (conI xs) ⟨pk, pn, pt⟩), nextAuto au3 ⟨pk, pn, pt⟩⟩, true) from by rw [HP.out, hfo]; dsimp only; rw [if_neg (by rw [conI_length, ← HN.out]; omega)])
            clear hfo
            have HAU := Lib.hid (show 0 ≤ au3 ∧ au3 ≤ 1000000 from by have h := HBS.out; unfold isS at h; simp only [Bool.and_eq_true] at h; exact L1.inB_true.1 h.2.2.2)
            clear f0 f1 f2 f3 f4 f5 f6 f7 f8 f9 f10 f11 f12
            have S8 := Lib.hid (show Sl.Sep w _ [L4.boxR w.heap.size 26 #[.string nm3, .slice a N c, .int .i64 au3], L4.boxR (w.heap.size + 1) 28 #[.int .i64 pk, .int .i64 pn, .string pt], L4.boxR (w.heap.size + 1 + 1) 41 #[.slice ra M rc], L4.boxR (w.heap.size + 1 + 1 + 1) 26 #[.string ⟨#[]⟩, .slice none 0 0, .int .i64 0], Bag.bag ([rowI a3 c3 ys] ++ rowsI ys), L4.boxR g1 26 #[.string nm3, .slice a3 N c3, .int .i64 au3]] from S7.out)
            clear S7
            have S9 := Lib.hid (show Sl.Sep w _ [L4.boxR w.heap.size 26 #[.string nm3, .slice a N c, .int .i64 au3], L4.boxR (w.heap.size + 1) 28 #[.int .i64 pk, .int .i64 pn, .string pt], L4.boxR (w.heap.size + 1 + 1) 41 #[.slice ra M rc], L4.boxR (w.heap.size + 1 + 1 + 1) 26 #[.string ⟨#[]⟩, .slice none 0 0, .int .i64 0], Bag.bag ([rowI a3 c3 ys]), L4.boxR g1 26 #[.string nm3, .slice a3 N c3, .int .i64 au3], Bag.bag (rowsI ys)] from Bag.bag_split S8.out 4 rfl)
            clear S8
            have S10 := Lib.hid (show Sl.Sep w _ [L4.boxR w.heap.size 26 #[.string nm3, .slice a N c, .int .i64 au3], L4.boxR (w.heap.size + 1) 28 #[.int .i64 pk, .int .i64 pn, .string pt], L4.boxR (w.heap.size + 1 + 1) 41 #[.slice ra M rc], L4.boxR (w.heap.size + 1 + 1 + 1) 26 #[.string ⟨#[]⟩, .slice none 0 0, .int .i64 0], Sv.ownV 43 4 a3 c3 N (cellsI ys), L4.boxR g1 26 #[.string nm3, .slice a3 N c3, .int .i64 au3], Bag.bag (rowsI ys)] from (by have h := Bag.one_of_bag S9.out 4 (r := rowI a3 c3 ys) rfl; unfold RowS.res rowI at h; dsimp only at h; rw [hyl] at h; exact h))
            clear S9
            have hh := Bag.cs3 S10.out 0 rfl
            have f0 := hh.1; have f1 := hh.2.1; have f2 := hh.2.2; clear hh
            have hh := Bag.cs3 S10.out 1 rfl
            have f3 := hh.1; have f4 := hh.2.1; have f5 := hh.2.2; clear hh
            have f6 := Bag.cs1 S10.out 2 rfl
            have hh := Bag.cs3 S10.out 3 rfl
            have f7 := hh.1; have f8 := hh.2.1; have f9 := hh.2.2; clear hh
            have hh := Bag.cs3 S10.out 5 rfl
            have f10 := hh.1; have f11 := hh.2.1; have f12 := hh.2.2; clear hh
            go_wp2_with fail
            go_loopw [10] (fun i wr => ∃ k : Nat, k ≤ N ∧ i = .int .i64 k ∧ Hid ((∀ j (hj : j < (conI xs).length), j < k → cmpK (conI xs)[j].k ⟨pk, pn, pt⟩ < 0) ∧ Sl.Sep w wr [L4.boxR w.heap.size 26 #[.string nm3, .slice a N c, .int .i64 au3], L4.boxR (w.heap.size + 1) 28 #[.int .i64 pk, .int .i64 pn, .string pt], L4.boxR (w.heap.size + 1 + 1) 41 #[.slice ra M rc], L4.boxR (w.heap.size + 1 + 1 + 1) 26 #[.string ⟨#[]⟩, .slice none 0 0, .int .i64 0], Sv.ownV 43 4 a3 c3 N (cellsI ys), L4.boxR g1 26 #[.string nm3, .slice a3 N c3, .int .i64 au3], Bag.bag (rowsI ys)])) (fun i _ => N - (intOf i).toNat)
            case atStart => exact ⟨0, Nat.zero_le _, rfl, And.intro (fun j hj h => absurd h (by omega)) S10.out⟩
            case round =>
              clear f0 f1 f2 f3 f4 f5 f6 f7 f8 f9 f10 f11 f12
              obtain ⟨k, hk, rfl, hrel⟩ := hrel
              have HA := Lib.hid hrel.out.1
              have S11 := Lib.hid hrel.out.2
              clear hrel S10
              by_cases hlt : (k : Int) < (N : Int)
              · skip
                have hkl : k < xs.length := by have := HN.out; omega
                obtain ⟨ad, x, rfl, hx⟩ := readsI_some (HR.out _ S11.out.old) k hkl
                obtain ⟨⟨kd, n, t⟩, ia, ic, l⟩ := x
                have HK := Lib.hid (fun w' (h : Below w.heap.size w w') => readsI_at (HR.out _ h) k _ hx)
                try dsimp only at HK
                have HFI := Lib.hid (fit_at HF.out hx)
                try dsimp only [LI.con] at HFI
                have hci : k < (conI xs).length := by rw [conI_length]; exact hkl
                have HC := Lib.hid (show (conI xs)[k]? = some (⟨⟨kd, n, t⟩, l⟩ : It) from con_of hx)
                clear hx
                obtain ⟨cv, hcv⟩ : ∃ b, cmpK ⟨kd, n, t⟩ ⟨pk, pn, pt⟩ = b := ⟨_, rfl⟩
                have HCMP := fun w => L4.specCompareKeys_any ⟨kd, n, t⟩ ⟨pk, pn, pt⟩ (by have : t.size ≤ 1099511627776 := HFI.out.text; show t.size ≤ _; omega) (by show pt.size ≤ _; omega) w
                rw [hcv] at HCMP
                replace HCMP := Lib.hid HCMP
                have HCV := Lib.hid hcv
                clear hcv
                have hh := Bag.cs3 S11.out 0 rfl
                have f0 := hh.1; have f1 := hh.2.1; have f2 := hh.2.2; clear hh
                have hh := Bag.cs3 S11.out 1 rfl
                have f3 := hh.1; have f4 := hh.2.1; have f5 := hh.2.2; clear hh
                have f6 := Bag.cs1 S11.out 2 rfl
                have hh := Bag.cs3 S11.out 3 rfl
                have f7 := hh.1; have f8 := hh.2.1; have f9 := hh.2.2; clear hh
                have hh := Bag.cs3 S11.out 5 rfl
                have f10 := hh.1; have f11 := hh.2.1; have f12 := hh.2.2; clear hh
                have hh := HK.out _ S11.out.old
                have f13 := hh.1; have f14 := hh.2.1; have f15 := hh.2.2.1; have f16 := hh.2.2.2; clear hh
                by_cases hc : cv < 0
                · skip
                  go_upto_region 11 with fail
                  clear f0 f1 f2 f3 f4 f5 f6 f7 f8 f9 f10 f11 f12 f13 f14 f15 f16
                  refine wp_region_held_drew (S := (fun w' => (World.cell? w' ⟨w.heap.size, 0, none⟩ = some (.string nm3) ∧ World.cell? w' ⟨w.heap.size, 1, none⟩ = some (.slice (some ad) N c) ∧ World.cell? w' ⟨w.heap.size, 2, none⟩ = some (.int .i64 au3)) ∧ (World.cell? w' ⟨w.heap.size + 1, 0, none⟩ = some (.int .i64 pk) ∧ World.cell? w' ⟨w.heap.size + 1, 1, none⟩ = some (.int .i64 pn) ∧ World.cell? w' ⟨w.heap.size + 1, 2, none⟩ = some (.string pt)) ∧ (World.cell? w' (ad.add (k * 4)) = some (.int .i64 kd) ∧ World.cell? w' (⟨(ad.add (k * 4)).block, (ad.add (k * 4)).off + 1, none⟩) = some (.int .i64 n) ∧ World.cell? w' (⟨(ad.add (k * 4)).block, (ad.add (k * 4)).off + 2, none⟩) = some (.string t) ∧ World.cell? w' (⟨(ad.add (k * 4)).block, (ad.add (k * 4)).off + 3, none⟩) = some (.slice ia l.length ic)))) (by kernel_rfl) ⟨Bag.cs3 (Bag.drew1 S11.out) 0 rfl, Bag.cs3 (Bag.drew1 S11.out) 1 rfl, HK.out _ (Bag.drew1 S11.out).old⟩ (fun hS => ?_)
                  have S12 := Lib.hid (show Sl.Sep w _ [L4.boxR w.heap.size 26 #[.string nm3, .slice (some ad) N c, .int .i64 au3], L4.boxR (w.heap.size + 1) 28 #[.int .i64 pk, .int .i64 pn, .string pt], L4.boxR (w.heap.size + 1 + 1) 41 #[.slice ra M rc], L4.boxR (w.heap.size + 1 + 1 + 1) 26 #[.string ⟨#[]⟩, .slice none 0 0, .int .i64 0], Sv.ownV 43 4 a3 c3 N (cellsI ys), L4.boxR g1 26 #[.string nm3, .slice a3 N c3, .int .i64 au3], Bag.bag (rowsI ys)] from Bag.drew1 S11.out)
                  clear S11
                  generalize World.drew _ = w7 at hS S12 ⊢
                  refine tk 0 rfl ?_
                  try simp only [zp0, zp1, zp2, zp3, zp4]
                  refine tk 1 rfl ?_
                  try simp only [zp0, zp1, zp2, zp3, zp4]
                  refine tk 2 rfl ?_
                  try simp only [zp0, zp1, zp2, zp3, zp4]
                  refine tk 3 rfl ?_
                  try simp only [zp0, zp1, zp2, zp3, zp4]
                  refine tk 4 rfl ?_
                  try simp only [zp0, zp1, zp2, zp3, zp4]
                  refine tk 5 rfl ?_
                  try simp only [zp0, zp1, zp2, zp3, zp4]
                  refine tk 6 rfl ?_
                  try simp only [zp0, zp1, zp2, zp3, zp4]
                  refine tk 7 rfl ?_
                  try simp only [zp0, zp1, zp2, zp3, zp4]
                  refine tk 8 rfl ?_
                  try simp only [zp0, zp1, zp2, zp3, zp4]
                  refine tk 9 rfl ?_
                  try simp only [zp0, zp1, zp2, zp3, zp4]
                  refine tk 10 rfl ?_
                  try simp only [zp0, zp1, zp2, zp3, zp4]
                  refine tk 11 rfl ?_
                  try simp only [zp0, zp1, zp2, zp3, zp4]
                  refine tk 12 rfl ?_
                  try simp only [zp0, zp1, zp2, zp3, zp4]
                  refine Reg.one_op (i := 13) rfl (by kernel_rfl) (fun K hK => ?_)
                  go_simp
                  go_at_call 27
                  refine (HCMP.out _).mono ?_
                  rintro e w8 ⟨rfl, hb⟩
                  have S13 := Lib.hid (S12.out.keep hb)
                  clear S12
                  clear hb
                  go_wp2_with fail
                  refine hK.out _ _ ⟨Bag.cs3 S13.out 0 rfl, Bag.cs3 S13.out 1 rfl, HK.out _ S13.out.old⟩ (fun hS => ?_)
                  clear hK K
                  try simp only [zp0, zp1, zp2, zp3, zp4]
                  refine tk 14 rfl ?_
                  try simp only [zp0, zp1, zp2, zp3, zp4]
                  refine tk 15 rfl ?_
                  try simp only [zp0, zp1, zp2, zp3, zp4]
                  refine wpAnyH_done (by kernel_rfl) ?_ _
                  have hh := Bag.cs3 S13.out 0 rfl
                  have f0 := hh.1; have f1 := hh.2.1; have f2 := hh.2.2; clear hh
                  have hh := Bag.cs3 S13.out 1 rfl
                  have f3 := hh.1; have f4 := hh.2.1; have f5 := hh.2.2; clear hh
                  have f6 := Bag.cs1 S13.out 2 rfl
                  have hh := Bag.cs3 S13.out 3 rfl
                  have f7 := hh.1; have f8 := hh.2.1; have f9 := hh.2.2; clear hh
                  have hh := Bag.cs3 S13.out 5 rfl
                  have f10 := hh.1; have f11 := hh.2.1; have f12 := hh.2.2; clear hh
                  have hh := HK.out _ S13.out.old
                  have f13 := hh.1; have f14 := hh.2.1; have f15 := hh.2.2.1; have f16 := hh.2.2.2; clear hh
                  go_wp2_with fail
                  go_roundw
                  case rel => exact ⟨k + 1, by omega, by go_num, And.intro (fun j hj h => by
                    by_cases e : j < k
                    · exact HA.out j hj e
                    · obtain rfl : j = k := by omega
                      rw [(List.getElem?_eq_some_iff.1 HC.out).2, HCV.out]; exact hc) S13.out⟩
                  case measure => simp [intOf]; omega
                · have hc2 : 0 ≤ cv := by omega
                  go_upto_region 11 with fail
                  clear f0 f1 f2 f3 f4 f5 f6 f7 f8 f9 f10 f11 f12 f13 f14 f15 f16
                  refine wp_region_held_drew (S := (fun w' => (World.cell? w' ⟨w.heap.size, 0, none⟩ = some (.string nm3) ∧ World.cell? w' ⟨w.heap.size, 1, none⟩ = some (.slice (some ad) N c) ∧ World.cell? w' ⟨w.heap.size, 2, none⟩ = some (.int .i64 au3)) ∧ (World.cell? w' ⟨w.heap.size + 1, 0, none⟩ = some (.int .i64 pk) ∧ World.cell? w' ⟨w.heap.size + 1, 1, none⟩ = some (.int .i64 pn) ∧ World.cell? w' ⟨w.heap.size + 1, 2, none⟩ = some (.string pt)) ∧ (World.cell? w' (ad.add (k * 4)) = some (.int .i64 kd) ∧ World.cell? w' (⟨(ad.add (k * 4)).block, (ad.add (k * 4)).off + 1, none⟩) = some (.int .i64 n) ∧ World.cell? w' (⟨(ad.add (k * 4)).block, (ad.add (k * 4)).off + 2, none⟩) = some (.string t) ∧ World.cell? w' (⟨(ad.add (k * 4)).block, (ad.add (k * 4)).off + 3, none⟩) = some (.slice ia l.length ic)))) (by kernel_rfl) ⟨Bag.cs3 (Bag.drew1 S11.out) 0 rfl, Bag.cs3 (Bag.drew1 S11.out) 1 rfl, HK.out _ (Bag.drew1 S11.out).old⟩ (fun hS => ?_)
                  have S12 := Lib.hid (show Sl.Sep w _ [L4.boxR w.heap.size 26 #[.string nm3, .slice (some ad) N c, .int .i64 au3], L4.boxR (w.heap.size + 1) 28 #[.int .i64 pk, .int .i64 pn, .string pt], L4.boxR (w.heap.size + 1 + 1) 41 #[.slice ra M rc], L4.boxR (w.heap.size + 1 + 1 + 1) 26 #[.string ⟨#[]⟩, .slice none 0 0, .int .i64 0], Sv.ownV 43 4 a3 c3 N (cellsI ys), L4.boxR g1 26 #[.string nm3, .slice a3 N c3, .int .i64 au3], Bag.bag (rowsI ys)] from Bag.drew1 S11.out)
                  clear S11
                  generalize World.drew _ = w7 at hS S12 ⊢
                  refine tk 0 rfl ?_
                  try simp only [zp0, zp1, zp2, zp3, zp4]
                  refine tk 1 rfl ?_
                  try simp only [zp0, zp1, zp2, zp3, zp4]
                  refine tk 2 rfl ?_
                  try simp only [zp0, zp1, zp2, zp3, zp4]
                  refine tk 3 rfl ?_
                  try simp only [zp0, zp1, zp2, zp3, zp4]
                  refine tk 4 rfl ?_
                  try simp only [zp0, zp1, zp2, zp3, zp4]
                  refine tk 5 rfl ?_
                  try simp only [zp0, zp1, zp2, zp3, zp4]
                  refine tk 6 rfl ?_
                  try simp only [zp0, zp1, zp2, zp3, zp4]
                  refine tk 7 rfl ?_
                  try simp only [zp0, zp1, zp2, zp3, zp4]
                  refine tk 8 rfl ?_
                  try simp only [zp0, zp1, zp2, zp3, zp4]
                  refine tk 9 rfl ?_
                  try simp only [zp0, zp1, zp2, zp3, zp4]
                  refine tk 10 rfl ?_
                  try simp only [zp0, zp1, zp2, zp3, zp4]
                  refine tk 11 rfl ?_
                  try simp only [zp0, zp1, zp2, zp3, zp4]
                  refine tk 12 rfl ?_
                  try simp only [zp0, zp1, zp2, zp3, zp4]
                  refine Reg.one_op (i := 13) rfl (by kernel_rfl) (fun K hK => ?_)
                  go_simp
                  go_at_call 27
                  refine (HCMP.out _).mono ?_
                  rintro e w8 ⟨rfl, hb⟩
                  have S13 := Lib.hid (S12.out.keep hb)
                  clear S12
                  clear hb
                  go_wp2_with fail
                  refine hK.out _ _ ⟨Bag.cs3 S13.out 0 rfl, Bag.cs3 S13.out 1 rfl, HK.out _ S13.out.old⟩ (fun hS => ?_)
                  clear hK K
                  try simp only [zp0, zp1, zp2, zp3, zp4]
                  refine tk 14 rfl ?_
                  try simp only [zp0, zp1, zp2, zp3, zp4]
                  refine tk 15 rfl ?_
                  try simp only [zp0, zp1, zp2, zp3, zp4]
                  refine wpAnyH_done (by kernel_rfl) ?_ _
                  have hh := Bag.cs3 S13.out 0 rfl
                  have f0 := hh.1; have f1 := hh.2.1; have f2 := hh.2.2; clear hh
                  have hh := Bag.cs3 S13.out 1 rfl
                  have f3 := hh.1; have f4 := hh.2.1; have f5 := hh.2.2; clear hh
                  have f6 := Bag.cs1 S13.out 2 rfl
                  have hh := Bag.cs3 S13.out 3 rfl
                  have f7 := hh.1; have f8 := hh.2.1; have f9 := hh.2.2; clear hh
                  have hh := Bag.cs3 S13.out 5 rfl
                  have f10 := hh.1; have f11 := hh.2.1; have f12 := hh.2.2; clear hh
                  have hh := HK.out _ S13.out.old
                  have f13 := hh.1; have f14 := hh.2.1; have f15 := hh.2.2.1; have f16 := hh.2.2.2; clear hh
                  have HPOS := Lib.hid (posI_at (xs := conI xs) (k := ⟨pk, pn, pt⟩) k (by omega) HA.out (fun h => by rw [(List.getElem?_eq_some_iff.1 HC.out).2, HCV.out]; omega))
                  clear f0 f1 f2 f3 f4 f5 f6 f7 f8 f9 f10 f11 f12 f13 f14 f15 f16
                  obtain ⟨g9, rfl⟩ : ∃ g, a3 = some ⟨g, 0, none⟩ := by
                    rcases (Sv.own_at S13.out 4 rfl).form with ⟨_, h0, _⟩ | ⟨g, e, _⟩
                    · omega
                    · exact ⟨g, e⟩
                  have hky : k ≤ ys.length := by omega
                  have hck : (k : Int) ≤ (c3 : Int) := by have := (Sv.own_at S13.out 4 rfl).cap; omega
                  have S14 := Lib.hid (show Sl.Sep w _ [L4.boxR w.heap.size 26 #[.string nm3, .slice (some ad) N c, .int .i64 au3], L4.boxR (w.heap.size + 1) 28 #[.int .i64 pk, .int .i64 pn, .string pt], L4.boxR (w.heap.size + 1 + 1) 41 #[.slice ra M rc], L4.boxR (w.heap.size + 1 + 1 + 1) 26 #[.string ⟨#[]⟩, .slice none 0 0, .int .i64 0], Sv.ownV 43 4 (some ⟨g9, 0, none⟩) c3 N (cellsI ys), L4.boxR g1 26 #[.string nm3, .slice (some ⟨g9, 0, none⟩) N c3, .int .i64 au3], Bag.bag (rowsI ys), Sv.ownV 43 4 (some ⟨w8.heap.size, 0, none⟩) 0 0 (cellsI [])] from Sv.push_own S13.out ((Below.refl _ _).alloc (Nat.le_refl _) _) (OwnV.madeAt w8 43 4 0 w8.heap.size #[] rfl (Nat.le_refl _) rfl (by decide)))
                  clear S13
                  have hh := Bag.cs3 S14.out 5 rfl
                  have f0 := hh.1; have f1 := hh.2.1; have f2 := hh.2.2; clear hh
                  have hh := HK.out _ S14.out.old
                  have f3 := hh.1; have f4 := hh.2.1; have f5 := hh.2.2.1; have f6 := hh.2.2.2; clear hh
                  go_wp2_with (at_builtin; refine L5.wpList_append_v S14.out 7 rfl rfl _ _ 24 (by rfl) i0 (.agg #[.int .i64 0, .int .i64 0, .string ⟨#[]⟩, .slice none 0 0]) 56 Try.underlying24 HI.out.1 HI.out.2.1 HI.out.2.2.1 HI.out.2.2.2 rfl (by omega) _ (by rfl) rfl _ _ k _ _ (cellsI (ys.take k)) (by rfl) rfl (reads_head (Sv.own_at S14.out 4 rfl).reads k) (by rw [cellsI_length, List.length_take, Nat.min_eq_left hky]) (cellsI_one _) (by unfold maxLen; omega) (by omega) ?_; intro a2' c2' w9 hA)
                  clear f0 f1 f2 f3 f4 f5 f6
                  have S15 := Lib.hid (show Sl.Sep w w9 [L4.boxR w.heap.size 26 #[.string nm3, .slice (some ad) N c, .int .i64 au3], L4.boxR (w.heap.size + 1) 28 #[.int .i64 pk, .int .i64 pn, .string pt], L4.boxR (w.heap.size + 1 + 1) 41 #[.slice ra M rc], L4.boxR (w.heap.size + 1 + 1 + 1) 26 #[.string ⟨#[]⟩, .slice none 0 0, .int .i64 0], Sv.ownV 43 4 (some ⟨g9, 0, none⟩) c3 N (cellsI ys), L4.boxR g1 26 #[.string nm3, .slice (some ⟨g9, 0, none⟩) N c3, .int .i64 au3], Bag.bag (rowsI ys), Sv.ownV 43 4 a2' c2' k (cellsI (ys.take k))] from (by have h := hA; rw [Nat.zero_add] at h; exact h))
                  clear S14
                  clear hA
                  have hh := Bag.cs3 S15.out 0 rfl
                  have f0 := hh.1; have f1 := hh.2.1; have f2 := hh.2.2; clear hh
                  have hh := Bag.cs3 S15.out 1 rfl
                  have f3 := hh.1; have f4 := hh.2.1; have f5 := hh.2.2; clear hh
                  have f6 := Bag.cs1 S15.out 2 rfl
                  have hh := Bag.cs3 S15.out 3 rfl
                  have f7 := hh.1; have f8 := hh.2.1; have f9 := hh.2.2; clear hh
                  have hh := Bag.cs3 S15.out 5 rfl
                  have f10 := hh.1; have f11 := hh.2.1; have f12 := hh.2.2; clear hh
                  have hh := HK.out _ S15.out.old
                  have f13 := hh.1; have f14 := hh.2.1; have f15 := hh.2.2.1; have f16 := hh.2.2.2; clear hh
                  go_upto_region 14 with fail
                  clear f0 f1 f2 f3 f4 f5 f6 f7 f8 f9 f10 f11 f12 f13 f14 f15 f16
                  refine wp_region_held_drew (S := (fun w' => (World.cell? w' ⟨w.heap.size + 1, 0, none⟩ = some (.int .i64 pk) ∧ World.cell? w' ⟨w.heap.size + 1, 1, none⟩ = some (.int .i64 pn) ∧ World.cell? w' ⟨w.heap.size + 1, 2, none⟩ = some (.string pt)) ∧ (World.cell? w' ⟨w.heap.size + 1 + 1, 0, none⟩ = some (.slice ra M rc)) ∧ (World.cell? w' (ad.add (k * 4)) = some (.int .i64 kd) ∧ World.cell? w' (⟨(ad.add (k * 4)).block, (ad.add (k * 4)).off + 1, none⟩) = some (.int .i64 n) ∧ World.cell? w' (⟨(ad.add (k * 4)).block, (ad.add (k * 4)).off + 2, none⟩) = some (.string t) ∧ World.cell? w' (⟨(ad.add (k * 4)).block, (ad.add (k * 4)).off + 3, none⟩) = some (.slice ia l.length ic)))) (by kernel_rfl) ⟨Bag.cs3 (Bag.drew1 S15.out) 1 rfl, Bag.cs1 (Bag.drew1 S15.out) 2 rfl, HK.out _ (Bag.drew1 S15.out).old⟩ (fun hS => ?_)
                  have S16 := Lib.hid (show Sl.Sep w _ [L4.boxR w.heap.size 26 #[.string nm3, .slice (some ad) N c, .int .i64 au3], L4.boxR (w.heap.size + 1) 28 #[.int .i64 pk, .int .i64 pn, .string pt], L4.boxR (w.heap.size + 1 + 1) 41 #[.slice ra M rc], L4.boxR (w.heap.size + 1 + 1 + 1) 26 #[.string ⟨#[]⟩, .slice none 0 0, .int .i64 0], Sv.ownV 43 4 (some ⟨g9, 0, none⟩) c3 N (cellsI ys), L4.boxR g1 26 #[.string nm3, .slice (some ⟨g9, 0, none⟩) N c3, .int .i64 au3], Bag.bag (rowsI ys), Sv.ownV 43 4 a2' c2' k (cellsI (ys.take k))] from Bag.drew1 S15.out)
                  clear S15
                  generalize World.drew _ = w10 at hS S16 ⊢
                  refine tk 0 rfl ?_
                  try simp only [zp0, zp1, zp2, zp3, zp4]
                  refine tk 1 rfl ?_
                  try simp only [zp0, zp1, zp2, zp3, zp4]
                  refine tk 2 rfl ?_
                  try simp only [zp0, zp1, zp2, zp3, zp4]
                  refine Reg.one_op (i := 3) rfl (by kernel_rfl) (fun K hK => ?_)
                  go_simp
                  go_at_call 128
                  refine (HRC.out _ S16.out.old).mono ?_
                  rintro e w11 ⟨a1, c1, rfl, ho, hb⟩
                  have S17 := Lib.hid (show Sl.Sep w _ [L4.boxR w.heap.size 26 #[.string nm3, .slice (some ad) N c, .int .i64 au3], L4.boxR (w.heap.size + 1) 28 #[.int .i64 pk, .int .i64 pn, .string pt], L4.boxR (w.heap.size + 1 + 1) 41 #[.slice ra M rc], L4.boxR (w.heap.size + 1 + 1 + 1) 26 #[.string ⟨#[]⟩, .slice none 0 0, .int .i64 0], Sv.ownV 43 4 (some ⟨g9, 0, none⟩) c3 N (cellsI ys), L4.boxR g1 26 #[.string nm3, .slice (some ⟨g9, 0, none⟩) N c3, .int .i64 au3], Bag.bag (rowsI ys), Sv.ownV 43 4 a2' c2' k (cellsI (ys.take k)), Sv.ownV 107 2 a1 c1 M (cellsF rl)] from Sv.push_own S16.out hb ho)
                  clear S16
                  clear hb ho
                  go_wp2_with fail
                  refine hK.out _ _ ⟨Bag.cs3 S17.out 1 rfl, Bag.cs1 S17.out 2 rfl, HK.out _ S17.out.old⟩ (fun hS => ?_)
                  clear hK K
                  try simp only [zp0, zp1, zp2, zp3, zp4]
                  refine tk 4 rfl ?_
                  try simp only [zp0, zp1, zp2, zp3, zp4]
                  refine Reg.one_op (i := 5) rfl (by kernel_rfl) (fun K hK => ?_)
                  go_simp
                  have S18 := Lib.hid (show Sl.Sep w _ [L4.boxR w.heap.size 26 #[.string nm3, .slice (some ad) N c, .int .i64 au3], L4.boxR (w.heap.size + 1) 28 #[.int .i64 pk, .int .i64 pn, .string pt], L4.boxR (w.heap.size + 1 + 1) 41 #[.slice ra M rc], L4.boxR (w.heap.size + 1 + 1 + 1) 26 #[.string ⟨#[]⟩, .slice none 0 0, .int .i64 0], Sv.ownV 43 4 (some ⟨g9, 0, none⟩) c3 N (cellsI ys), L4.boxR g1 26 #[.string nm3, .slice (some ⟨g9, 0, none⟩) N c3, .int .i64 au3], Bag.bag (rowsI ys), Sv.ownV 43 4 a2' c2' k (cellsI (ys.take k)), Sv.ownV 107 2 a1 c1 M (cellsF rl), Sv.ownV 43 4 (some ⟨w11.heap.size, 0, none⟩) 1 1 ([.int .i64 pk, .int .i64 pn, .string pt, .slice a1 M c1])] from Sv.push_own S17.out ((Below.refl _ _).alloc (Nat.le_refl _) _) (OwnV.madeAt w11 43 4 1 w11.heap.size #[.int .i64 pk, .int .i64 pn, .string pt, .slice a1 M c1] rfl (Nat.le_refl _) rfl (by decide)))
                  clear S17
                  obtain ⟨g3, hg⟩ : ∃ g', g' = w11.heap.size := ⟨_, rfl⟩
                  rw [← hg] at S18 ⊢
                  clear hg
                  generalize w11.alloc (.cells #[.int .i64 pk, .int .i64 pn, .string pt, .slice a1 M c1] 43) = w12 at S18 ⊢
                  refine hK.out _ _ ⟨Bag.cs3 S18.out 1 rfl, Bag.cs1 S18.out 2 rfl, HK.out _ S18.out.old⟩ (fun hS => ?_)
                  clear hK K
                  try simp only [zp0, zp1, zp2, zp3, zp4]
                  refine Reg.one_op (i := 6) rfl (by kernel_rfl) (fun K hK => ?_)
                  refine Sv.step_append_s S18.out 7 rfl rfl _ _ 24 (by rfl) i0 (.agg #[.int .i64 0, .int .i64 0, .string ⟨#[]⟩, .slice none 0 0]) 56 Try.underlying24 HI.out.1 HI.out.2.1 HI.out.2.2.1 HI.out.2.2.2 rfl (by omega) _ (by rfl) rfl _ _ 1 _ _ ([.int .i64 pk, .int .i64 pn, .string pt, .slice a1 M c1]) (by rfl) rfl ((Sv.own_at S18.out 9 rfl).reads) rfl (by intro u hu; simp at hu; rcases hu with rfl | rfl | rfl | rfl <;> rfl) (by unfold maxLen; omega) (by omega) ?_
                  intro a4' c4' w13 hA
                  have S19 := Lib.hid (show Sl.Sep w _ [L4.boxR w.heap.size 26 #[.string nm3, .slice (some ad) N c, .int .i64 au3], L4.boxR (w.heap.size + 1) 28 #[.int .i64 pk, .int .i64 pn, .string pt], L4.boxR (w.heap.size + 1 + 1) 41 #[.slice ra M rc], L4.boxR (w.heap.size + 1 + 1 + 1) 26 #[.string ⟨#[]⟩, .slice none 0 0, .int .i64 0], Sv.ownV 43 4 (some ⟨g9, 0, none⟩) c3 N (cellsI ys), L4.boxR g1 26 #[.string nm3, .slice (some ⟨g9, 0, none⟩) N c3, .int .i64 au3], Bag.bag (rowsI ys), Sv.ownV 43 4 a4' c4' (k + 1) (cellsI (ys.take k) ++ ([.int .i64 pk, .int .i64 pn, .string pt, .slice a1 M c1])), Sv.ownV 107 2 a1 c1 M (cellsF rl), Sv.ownV 43 4 (some ⟨g3, 0, none⟩) 1 1 ([.int .i64 pk, .int .i64 pn, .string pt, .slice a1 M c1])] from hA)
                  clear S18
                  clear hA
                  refine hK.out _ _ ⟨Bag.cs3 S19.out 1 rfl, Bag.cs1 S19.out 2 rfl, HK.out _ S19.out.old⟩ (fun hS => ?_)
                  clear hK K
                  try simp only [zp0, zp1, zp2, zp3, zp4]
                  refine tk 7 rfl ?_
                  try simp only [zp0, zp1, zp2, zp3, zp4]
                  refine wpAnyH_done (by kernel_rfl) ?_ _
                  have hh := Bag.cs3 S19.out 0 rfl
                  have f0 := hh.1; have f1 := hh.2.1; have f2 := hh.2.2; clear hh
                  have hh := Bag.cs3 S19.out 1 rfl
                  have f3 := hh.1; have f4 := hh.2.1; have f5 := hh.2.2; clear hh
                  have f6 := Bag.cs1 S19.out 2 rfl
                  have hh := Bag.cs3 S19.out 3 rfl
                  have f7 := hh.1; have f8 := hh.2.1; have f9 := hh.2.2; clear hh
                  have hh := Bag.cs3 S19.out 5 rfl
                  have f10 := hh.1; have f11 := hh.2.1; have f12 := hh.2.2; clear hh
                  have hh := HK.out _ S19.out.old
                  have f13 := hh.1; have f14 := hh.2.1; have f15 := hh.2.2.1; have f16 := hh.2.2.2; clear hh
                  clear f0 f1 f2 f3 f4 f5 f6 f7 f8 f9 f10 f11 f12 f13 f14 f15 f16
                  have hh := Bag.cs3 S19.out 5 rfl
                  have f0 := hh.1; have f1 := hh.2.1; have f2 := hh.2.2; clear hh
                  have hh := HK.out _ S19.out.old
                  have f3 := hh.1; have f4 := hh.2.1; have f5 := hh.2.2.1; have f6 := hh.2.2.2; clear hh
                  have hcl := (Sv.own_at S19.out 4 rfl).cap
                  have hnl : ys.length ≤ c3 := by omega
                  have HNL := Lib.hid hnl
                  clear hnl hcl
                  have hkN : (k : Int) ≤ (N : Int) := by omega
                  have hNc : (N : Int) ≤ (c3 : Int) := by have := HNL.out; omega
                  go_upto_region 16 with (at_builtin; refine L5.wpList_append_v S19.out 7 rfl rfl _ _ 24 (by rfl) i0 (.agg #[.int .i64 0, .int .i64 0, .string ⟨#[]⟩, .slice none 0 0]) 56 Try.underlying24 HI.out.1 HI.out.2.1 HI.out.2.2.1 HI.out.2.2.2 rfl (by omega) _ (by rfl) rfl _ _ (N - k) _ _ (cellsI (ys.drop k)) (by rfl) rfl (reads_rest2 (Sv.own_at S19.out 4 rfl).reads k) (by rw [cellsI_length, List.length_drop, hyl]) (cellsI_one _) (by unfold maxLen; omega) (by omega) ?_; intro a5' c5' w14 hA; have SA := Lib.hid (show Sl.Sep w w14 [L4.boxR w.heap.size 26 #[.string nm3, .slice (some ad) N c, .int .i64 au3], L4.boxR (w.heap.size + 1) 28 #[.int .i64 pk, .int .i64 pn, .string pt], L4.boxR (w.heap.size + 1 + 1) 41 #[.slice ra M rc], L4.boxR (w.heap.size + 1 + 1 + 1) 26 #[.string ⟨#[]⟩, .slice none 0 0, .int .i64 0], Sv.ownV 43 4 (some ⟨g9, 0, none⟩) c3 N (cellsI ys), L4.boxR g1 26 #[.string nm3, .slice (some ⟨g9, 0, none⟩) N c3, .int .i64 au3], Bag.bag (rowsI ys), Sv.ownV 43 4 (a5') (c5') (k + 1 + (N - k)) ((cellsI (ys.take k) ++ ([.int .i64 pk, .int .i64 pn, .string pt, .slice a1 M c1])) ++ cellsI (ys.drop k)), Sv.ownV 107 2 a1 c1 M (cellsF rl), Sv.ownV 43 4 (some ⟨g3, 0, none⟩) 1 1 ([.int .i64 pk, .int .i64 pn, .string pt, .slice a1 M c1])] from hA); clear hA; have f0 : World.cell? _ ⟨g1, 1, none⟩ = some (.slice (some ⟨g9, 0, none⟩) N c3) := Bag.cell_at SA.out 5 rfl 1 rfl; have z1 := Bag.free_at SA.out 5 rfl 1)
                  have S20 := SA
                  clear SA S19 f0 z1
                  have S21 := Lib.hid (show Sl.Sep w _ [L4.boxR w.heap.size 26 #[.string nm3, .slice (some ad) N c, .int .i64 au3], L4.boxR (w.heap.size + 1) 28 #[.int .i64 pk, .int .i64 pn, .string pt], L4.boxR (w.heap.size + 1 + 1) 41 #[.slice ra M rc], L4.boxR (w.heap.size + 1 + 1 + 1) 26 #[.string ⟨#[]⟩, .slice none 0 0, .int .i64 0], Sv.ownV 43 4 (some ⟨g9, 0, none⟩) c3 N (cellsI ys), L4.boxR g1 26 #[.string nm3, .slice a5' (k + 1 + (N - k)) c5', .int .i64 au3], Bag.bag (rowsI ys), Sv.ownV 43 4 a5' c5' (k + 1 + (N - k)) ((cellsI (ys.take k) ++ ([.int .i64 pk, .int .i64 pn, .string pt, .slice a1 M c1])) ++ cellsI (ys.drop k)), Sv.ownV 107 2 a1 c1 M (cellsF rl), Sv.ownV 43 4 (some ⟨g3, 0, none⟩) 1 1 ([.int .i64 pk, .int .i64 pn, .string pt, .slice a1 M c1])] from L5.put_box5 (S20.out) 5 rfl 1 (.slice a5' (k + 1 + (N - k)) c5'))
                  clear S20
                  have S22 := Lib.hid (show Sl.Sep w _ [L4.boxR w.heap.size 26 #[.string nm3, .slice (some ad) N c, .int .i64 au3], L4.boxR (w.heap.size + 1) 28 #[.int .i64 pk, .int .i64 pn, .string pt], L4.boxR (w.heap.size + 1 + 1) 41 #[.slice ra M rc], L4.boxR (w.heap.size + 1 + 1 + 1) 26 #[.string ⟨#[]⟩, .slice none 0 0, .int .i64 0], L4.boxR g1 26 #[.string nm3, .slice a5' (k + 1 + (N - k)) c5', .int .i64 au3], Bag.bag (rowsI ys), Sv.ownV 43 4 a5' c5' (k + 1 + (N - k)) ((cellsI (ys.take k) ++ ([.int .i64 pk, .int .i64 pn, .string pt, .slice a1 M c1])) ++ cellsI (ys.drop k)), Sv.ownV 107 2 a1 c1 M (cellsF rl)] from Bag.take S21.out [0, 1, 2, 3, 5, 6, 7, 8] (by rfl) (by decide))
                  clear S21
                  obtain ⟨ba, hba⟩ : ∃ b, L1.inB pn (au3 + 1) 1000000 = b := ⟨_, rfl⟩
                  have HIA := fun w => L1.l1In_any pn (au3 + 1) 1000000 w
                  rw [hba] at HIA
                  replace HIA := Lib.hid HIA
                  have hau0 : 0 ≤ au3 := HAU.out.1
                  have hau1 : au3 ≤ 1000000 := HAU.out.2
                  have HBA := Lib.hid hba
                  clear hba
                  have hh := Bag.cs3 S22.out 0 rfl
                  have f0 := hh.1; have f1 := hh.2.1; have f2 := hh.2.2; clear hh
                  have hh := Bag.cs3 S22.out 1 rfl
                  have f3 := hh.1; have f4 := hh.2.1; have f5 := hh.2.2; clear hh
                  have f6 := Bag.cs1 S22.out 2 rfl
                  have hh := Bag.cs3 S22.out 3 rfl
                  have f7 := hh.1; have f8 := hh.2.1; have f9 := hh.2.2; clear hh
                  have hh := Bag.cs3 S22.out 4 rfl
                  have f10 := hh.1; have f11 := hh.2.1; have f12 := hh.2.2; clear hh
                  have hh := HK.out _ S22.out.old
                  have f13 := hh.1; have f14 := hh.2.1; have f15 := hh.2.2.1; have f16 := hh.2.2.2; clear hh
                  by_cases hk1 : pk = 1
                  · subst hk1
                    cases ba with
                    | false =>
                      go_wp2_with fail
                      go_at_call 71
                      refine (HIA.out _).mono ?_
                      rintro e w15 ⟨rfl, rfl⟩
                      clear f0 f1 f2 f3 f4 f5 f6 f7 f8 f9 f10 f11 f12 f13 f14 f15 f16
                      have hh := Bag.cs3 S22.out 0 rfl
                      have f0 := hh.1; have f1 := hh.2.1; have f2 := hh.2.2; clear hh
                      have hh := Bag.cs3 S22.out 1 rfl
                      have f3 := hh.1; have f4 := hh.2.1; have f5 := hh.2.2; clear hh
                      have f6 := Bag.cs1 S22.out 2 rfl
                      have hh := Bag.cs3 S22.out 3 rfl
                      have f7 := hh.1; have f8 := hh.2.1; have f9 := hh.2.2; clear hh
                      have hh := Bag.cs3 S22.out 4 rfl
                      have f10 := hh.1; have f11 := hh.2.1; have f12 := hh.2.2; clear hh
                      have hh := HK.out _ S22.out.old
                      have f13 := hh.1; have f14 := hh.2.1; have f15 := hh.2.2.1; have f16 := hh.2.2.2; clear hh
                      have hh := Bag.fs3 S22.out 3 rfl
                      have z0 := hh.1; have z1 := hh.2.1; have z2 := hh.2.2; clear hh
                      go_wp2_with fail
                      clear f0 f1 f2 f3 f4 f5 f6 f7 f8 f9 f10 f11 f12 f13 f14 f15 f16 z0 z1 z2
                      have S23 := Lib.hid (show Sl.Sep w _ [L4.boxR w.heap.size 26 #[.string nm3, .slice (some ad) N c, .int .i64 au3], L4.boxR (w.heap.size + 1) 28 #[.int .i64 1, .int .i64 pn, .string pt], L4.boxR (w.heap.size + 1 + 1) 41 #[.slice ra M rc], L4.boxR (w.heap.size + 1 + 1 + 1) 26 #[.string nm3, .slice a5' (k + 1 + (N - k)) c5', .int .i64 au3], L4.boxR g1 26 #[.string nm3, .slice a5' (k + 1 + (N - k)) c5', .int .i64 au3], Bag.bag (rowsI ys), Sv.ownV 43 4 a5' c5' (k + 1 + (N - k)) ((cellsI (ys.take k) ++ ([.int .i64 1, .int .i64 pn, .string pt, .slice a1 M c1])) ++ cellsI (ys.drop k)), Sv.ownV 107 2 a1 c1 M (cellsF rl)] from L5.put_box5 (L5.put_box5 (L5.put_box5 (S22.out) 3 rfl 0 (.string nm3)) 3 rfl 1 (.slice a5' (k + 1 + (N - k)) c5')) 3 rfl 2 (.int .i64 au3))
                      clear S22
                      have hh := Bag.cs3 S23.out 3 rfl
                      have f0 := hh.1; have f1 := hh.2.1; have f2 := hh.2.2; clear hh
                      have hh := HK.out _ S23.out.old
                      have f3 := hh.1; have f4 := hh.2.1; have f5 := hh.2.2.1; have f6 := hh.2.2.2; clear hh
                      refine bodyPost_ret (v := .tuple #[.agg #[.string nm3, .slice a5' (k + 1 + (N - k)) c5', .int .i64 au3], .bool true]) (by simp [results, Try.results134, go_sem, *]) rfl ?_
                      clear f0 f1 f2 f3 f4 f5 f6
                      have HX9 := Lib.hid (show nextAuto au3 ⟨1, pn, pt⟩ = au3 from by unfold nextAuto; dsimp only; rw [HBA.out, Bool.and_false]; rfl)
                      have hM := HM.out
                      subst hM
                      have S90 := Lib.hid (Bag.bag_of_one S23.out 7 (r := (LI.mk ⟨1, pn, pt⟩ a1 c1 rl).row) rfl)
                      have S91 := Lib.hid (Bag.bag_join S90.out 5 7 (by decide) rfl rfl)
                      have S92 := Lib.hid (Bag.bag_perm S91.out 5 rfl (rowsI_ins ys k ⟨⟨1, pn, pt⟩, a1, c1, rl⟩))
                      have hlz : (ys.take k ++ ⟨⟨1, pn, pt⟩, a1, c1, rl⟩ :: ys.drop k).length = k + 1 + (N - k) := by rw [List.length_append, List.length_cons, List.length_take, List.length_drop]; omega
                      have hcz : cellsI (ys.take k ++ ⟨⟨1, pn, pt⟩, a1, c1, rl⟩ :: ys.drop k) = (cellsI (ys.take k) ++ ([.int .i64 1, .int .i64 pn, .string pt, .slice a1 rl.length c1])) ++ cellsI (ys.drop k) := by rw [cellsI_append, cellsI_cons]; simp
                      have S93 := Lib.hid (Bag.bag_of_one S92.out 6 (r := rowI a5' c5' (ys.take k ++ ⟨⟨1, pn, pt⟩, a1, c1, rl⟩ :: ys.drop k)) (by unfold RowS.res rowI; dsimp only; rw [hlz, hcz]; rfl))
                      have S94 := Lib.hid (Bag.bag_join S93.out 6 5 (by decide) rfl rfl)
                      refine ⟨⟨nm3, a5', c5', ys.take k ++ ⟨⟨1, pn, pt⟩, a1, c1, rl⟩ :: ys.drop k, au3⟩, ?_, ?_, ?_, S94.out.old⟩
                      · rw [HE.out]; unfold LS.v LS.cells; dsimp only; rw [hlz]
                      · rw [HE.out, HX9.out, HPOS.out]; unfold LS.con; dsimp only; rw [conI_ins, HCE.out]; rfl
                      · have h := Bag.bag_from S94.out 6 rfl
                        unfold LS.rows; exact h
                    | true =>
                      go_wp2_with fail
                      go_at_call 71
                      refine (HIA.out _).mono ?_
                      rintro e w15 ⟨rfl, rfl⟩
                      clear f0 f1 f2 f3 f4 f5 f6 f7 f8 f9 f10 f11 f12 f13 f14 f15 f16
                      have hh := Bag.cs3 S22.out 0 rfl
                      have f0 := hh.1; have f1 := hh.2.1; have f2 := hh.2.2; clear hh
                      have hh := Bag.cs3 S22.out 1 rfl
                      have f3 := hh.1; have f4 := hh.2.1; have f5 := hh.2.2; clear hh
                      have f6 := Bag.cs1 S22.out 2 rfl
                      have hh := Bag.cs3 S22.out 3 rfl
                      have f7 := hh.1; have f8 := hh.2.1; have f9 := hh.2.2; clear hh
                      have hh := Bag.cs3 S22.out 4 rfl
                      have f10 := hh.1; have f11 := hh.2.1; have f12 := hh.2.2; clear hh
                      have hh := HK.out _ S22.out.old
                      have f13 := hh.1; have f14 := hh.2.1; have f15 := hh.2.2.1; have f16 := hh.2.2.2; clear hh
                      have hh := Bag.fs3 S22.out 4 rfl
                      have z0 := hh.1; have z1 := hh.2.1; have z2 := hh.2.2; clear hh
                      go_upto_region 18 with fail
                      clear f0 f1 f2 f3 f4 f5 f6 f7 f8 f9 f10 f11 f12 f13 f14 f15 f16 z0 z1 z2
                      have S23 := Lib.hid (show Sl.Sep w _ [L4.boxR w.heap.size 26 #[.string nm3, .slice (some ad) N c, .int .i64 au3], L4.boxR (w.heap.size + 1) 28 #[.int .i64 1, .int .i64 pn, .string pt], L4.boxR (w.heap.size + 1 + 1) 41 #[.slice ra M rc], L4.boxR (w.heap.size + 1 + 1 + 1) 26 #[.string ⟨#[]⟩, .slice none 0 0, .int .i64 0], L4.boxR g1 26 #[.string nm3, .slice a5' (k + 1 + (N - k)) c5', .int .i64 pn], Bag.bag (rowsI ys), Sv.ownV 43 4 a5' c5' (k + 1 + (N - k)) ((cellsI (ys.take k) ++ ([.int .i64 1, .int .i64 pn, .string pt, .slice a1 M c1])) ++ cellsI (ys.drop k)), Sv.ownV 107 2 a1 c1 M (cellsF rl)] from L5.put_box5 (S22.out) 4 rfl 2 (.int .i64 pn))
                      clear S22
                      have hh := Bag.cs3 S23.out 0 rfl
                      have f0 := hh.1; have f1 := hh.2.1; have f2 := hh.2.2; clear hh
                      have hh := Bag.cs3 S23.out 1 rfl
                      have f3 := hh.1; have f4 := hh.2.1; have f5 := hh.2.2; clear hh
                      have f6 := Bag.cs1 S23.out 2 rfl
                      have hh := Bag.cs3 S23.out 3 rfl
                      have f7 := hh.1; have f8 := hh.2.1; have f9 := hh.2.2; clear hh
                      have hh := Bag.cs3 S23.out 4 rfl
                      have f10 := hh.1; have f11 := hh.2.1; have f12 := hh.2.2; clear hh
                      have hh := HK.out _ S23.out.old
                      have f13 := hh.1; have f14 := hh.2.1; have f15 := hh.2.2.1; have f16 := hh.2.2.2; clear hh
                      have hh := Bag.fs3 S23.out 3 rfl
                      have z0 := hh.1; have z1 := hh.2.1; have z2 := hh.2.2; clear hh
                      go_wp2_with fail
                      clear f0 f1 f2 f3 f4 f5 f6 f7 f8 f9 f10 f11 f12 f13 f14 f15 f16 z0 z1 z2
                      have S24 := Lib.hid (show Sl.Sep w _ [L4.boxR w.heap.size 26 #[.string nm3, .slice (some ad) N c, .int .i64 au3], L4.boxR (w.heap.size + 1) 28 #[.int .i64 1, .int .i64 pn, .string pt], L4.boxR (w.heap.size + 1 + 1) 41 #[.slice ra M rc], L4.boxR (w.heap.size + 1 + 1 + 1) 26 #[.string nm3, .slice a5' (k + 1 + (N - k)) c5', .int .i64 pn], L4.boxR g1 26 #[.string nm3, .slice a5' (k + 1 + (N - k)) c5', .int .i64 pn], Bag.bag (rowsI ys), Sv.ownV 43 4 a5' c5' (k + 1 + (N - k)) ((cellsI (ys.take k) ++ ([.int .i64 1, .int .i64 pn, .string pt, .slice a1 M c1])) ++ cellsI (ys.drop k)), Sv.ownV 107 2 a1 c1 M (cellsF rl)] from L5.put_box5 (L5.put_box5 (L5.put_box5 (S23.out) 3 rfl 0 (.string nm3)) 3 rfl 1 (.slice a5' (k + 1 + (N - k)) c5')) 3 rfl 2 (.int .i64 pn))
                      clear S23
                      have hh := Bag.cs3 S24.out 3 rfl
                      have f0 := hh.1; have f1 := hh.2.1; have f2 := hh.2.2; clear hh
                      have hh := HK.out _ S24.out.old
                      have f3 := hh.1; have f4 := hh.2.1; have f5 := hh.2.2.1; have f6 := hh.2.2.2; clear hh
                      refine bodyPost_ret (v := .tuple #[.agg #[.string nm3, .slice a5' (k + 1 + (N - k)) c5', .int .i64 pn], .bool true]) (by simp [results, Try.results134, go_sem, *]) rfl ?_
                      clear f0 f1 f2 f3 f4 f5 f6
                      have HX9 := Lib.hid (show nextAuto au3 ⟨1, pn, pt⟩ = pn from by unfold nextAuto; dsimp only; rw [HBA.out]; rfl)
                      have hM := HM.out
                      subst hM
                      have S90 := Lib.hid (Bag.bag_of_one S24.out 7 (r := (LI.mk ⟨1, pn, pt⟩ a1 c1 rl).row) rfl)
                      have S91 := Lib.hid (Bag.bag_join S90.out 5 7 (by decide) rfl rfl)
                      have S92 := Lib.hid (Bag.bag_perm S91.out 5 rfl (rowsI_ins ys k ⟨⟨1, pn, pt⟩, a1, c1, rl⟩))
                      have hlz : (ys.take k ++ ⟨⟨1, pn, pt⟩, a1, c1, rl⟩ :: ys.drop k).length = k + 1 + (N - k) := by rw [List.length_append, List.length_cons, List.length_take, List.length_drop]; omega
                      have hcz : cellsI (ys.take k ++ ⟨⟨1, pn, pt⟩, a1, c1, rl⟩ :: ys.drop k) = (cellsI (ys.take k) ++ ([.int .i64 1, .int .i64 pn, .string pt, .slice a1 rl.length c1])) ++ cellsI (ys.drop k) := by rw [cellsI_append, cellsI_cons]; simp
                      have S93 := Lib.hid (Bag.bag_of_one S92.out 6 (r := rowI a5' c5' (ys.take k ++ ⟨⟨1, pn, pt⟩, a1, c1, rl⟩ :: ys.drop k)) (by unfold RowS.res rowI; dsimp only; rw [hlz, hcz]; rfl))
                      have S94 := Lib.hid (Bag.bag_join S93.out 6 5 (by decide) rfl rfl)
                      refine ⟨⟨nm3, a5', c5', ys.take k ++ ⟨⟨1, pn, pt⟩, a1, c1, rl⟩ :: ys.drop k, pn⟩, ?_, ?_, ?_, S94.out.old⟩
                      · rw [HE.out]; unfold LS.v LS.cells; dsimp only; rw [hlz]
                      · rw [HE.out, HX9.out, HPOS.out]; unfold LS.con; dsimp only; rw [conI_ins, HCE.out]; rfl
                      · have h := Bag.bag_from S94.out 6 rfl
                        unfold LS.rows; exact h
                  · have hk2 : (pk == 1) = false := by simpa using hk1
                    clear f0 f1 f2 f3 f4 f5 f6 f7 f8 f9 f10 f11 f12 f13 f14 f15 f16
                    have hh := Bag.cs3 S22.out 0 rfl
                    have f0 := hh.1; have f1 := hh.2.1; have f2 := hh.2.2; clear hh
                    have hh := Bag.cs3 S22.out 1 rfl
                    have f3 := hh.1; have f4 := hh.2.1; have f5 := hh.2.2; clear hh
                    have f6 := Bag.cs1 S22.out 2 rfl
                    have hh := Bag.cs3 S22.out 3 rfl
                    have f7 := hh.1; have f8 := hh.2.1; have f9 := hh.2.2; clear hh
                    have hh := Bag.cs3 S22.out 4 rfl
                    have f10 := hh.1; have f11 := hh.2.1; have f12 := hh.2.2; clear hh
                    have hh := HK.out _ S22.out.old
                    have f13 := hh.1; have f14 := hh.2.1; have f15 := hh.2.2.1; have f16 := hh.2.2.2; clear hh
                    have hh := Bag.fs3 S22.out 3 rfl
                    have z0 := hh.1; have z1 := hh.2.1; have z2 := hh.2.2; clear hh
                    go_wp2_with fail
                    clear f0 f1 f2 f3 f4 f5 f6 f7 f8 f9 f10 f11 f12 f13 f14 f15 f16 z0 z1 z2
                    have S23 := Lib.hid (show Sl.Sep w _ [L4.boxR w.heap.size 26 #[.string nm3, .slice (some ad) N c, .int .i64 au3], L4.boxR (w.heap.size + 1) 28 #[.int .i64 pk, .int .i64 pn, .string pt], L4.boxR (w.heap.size + 1 + 1) 41 #[.slice ra M rc], L4.boxR (w.heap.size + 1 + 1 + 1) 26 #[.string nm3, .slice a5' (k + 1 + (N - k)) c5', .int .i64 au3], L4.boxR g1 26 #[.string nm3, .slice a5' (k + 1 + (N - k)) c5', .int .i64 au3], Bag.bag (rowsI ys), Sv.ownV 43 4 a5' c5' (k + 1 + (N - k)) ((cellsI (ys.take k) ++ ([.int .i64 pk, .int .i64 pn, .string pt, .slice a1 M c1])) ++ cellsI (ys.drop k)), Sv.ownV 107 2 a1 c1 M (cellsF rl)] from L5.put_box5 (L5.put_box5 (L5.put_box5 (S22.out) 3 rfl 0 (.string nm3)) 3 rfl 1 (.slice a5' (k + 1 + (N - k)) c5')) 3 rfl 2 (.int .i64 au3))
                    clear S22
                    have hh := Bag.cs3 S23.out 3 rfl
                    have f0 := hh.1; have f1 := hh.2.1; have f2 := hh.2.2; clear hh
                    have hh := HK.out _ S23.out.old
                    have f3 := hh.1; have f4 := hh.2.1; have f5 := hh.2.2.1; have f6 := hh.2.2.2; clear hh
                    refine bodyPost_ret (v := .tuple #[.agg #[.string nm3, .slice a5' (k + 1 + (N - k)) c5', .int .i64 au3], .bool true]) (by simp [results, Try.results134, go_sem, *]) rfl ?_
                    clear f0 f1 f2 f3 f4 f5 f6
                    have HX9 := Lib.hid (show nextAuto au3 ⟨pk, pn, pt⟩ = au3 from by unfold nextAuto; dsimp only; rw [hk2]; rfl)
                    have hM := HM.out
                    subst hM
                    have S90 := Lib.hid (Bag.bag_of_one S23.out 7 (r := (LI.mk ⟨pk, pn, pt⟩ a1 c1 rl).row) rfl)
                    have S91 := Lib.hid (Bag.bag_join S90.out 5 7 (by decide) rfl rfl)
                    have S92 := Lib.hid (Bag.bag_perm S91.out 5 rfl (rowsI_ins ys k ⟨⟨pk, pn, pt⟩, a1, c1, rl⟩))
                    have hlz : (ys.take k ++ ⟨⟨pk, pn, pt⟩, a1, c1, rl⟩ :: ys.drop k).length = k + 1 + (N - k) := by rw [List.length_append, List.length_cons, List.length_take, List.length_drop]; omega
                    have hcz : cellsI (ys.take k ++ ⟨⟨pk, pn, pt⟩, a1, c1, rl⟩ :: ys.drop k) = (cellsI (ys.take k) ++ ([.int .i64 pk, .int .i64 pn, .string pt, .slice a1 rl.length c1])) ++ cellsI (ys.drop k) := by rw [cellsI_append, cellsI_cons]; simp
                    have S93 := Lib.hid (Bag.bag_of_one S92.out 6 (r := rowI a5' c5' (ys.take k ++ ⟨⟨pk, pn, pt⟩, a1, c1, rl⟩ :: ys.drop k)) (by unfold RowS.res rowI; dsimp only; rw [hlz, hcz]; rfl))
                    have S94 := Lib.hid (Bag.bag_join S93.out 6 5 (by decide) rfl rfl)
                    refine ⟨⟨nm3, a5', c5', ys.take k ++ ⟨⟨pk, pn, pt⟩, a1, c1, rl⟩ :: ys.drop k, au3⟩, ?_, ?_, ?_, S94.out.old⟩
                    · rw [HE.out]; unfold LS.v LS.cells; dsimp only; rw [hlz]
                    · rw [HE.out, HX9.out, HPOS.out]; unfold LS.con; dsimp only; rw [conI_ins, HCE.out]; rfl
                    · have h := Bag.bag_from S94.out 6 rfl
                      unfold LS.rows; exact h
              · skip
                have hge : ¬ (k : Int) < (N : Int) := hlt
                obtain rfl : k = N := by omega
                have HPOS := Lib.hid (posI_at (xs := conI xs) (k := ⟨pk, pn, pt⟩) k (by rw [conI_length]; have := HN.out; omega) HA.out (fun h => absurd h (by rw [conI_length]; have := HN.out; omega)))
                have hh := Bag.cs3 S11.out 0 rfl
                have f0 := hh.1; have f1 := hh.2.1; have f2 := hh.2.2; clear hh
                have hh := Bag.cs3 S11.out 1 rfl
                have f3 := hh.1; have f4 := hh.2.1; have f5 := hh.2.2; clear hh
                have f6 := Bag.cs1 S11.out 2 rfl
                have hh := Bag.cs3 S11.out 3 rfl
                have f7 := hh.1; have f8 := hh.2.1; have f9 := hh.2.2; clear hh
                have hh := Bag.cs3 S11.out 5 rfl
                have f10 := hh.1; have f11 := hh.2.1; have f12 := hh.2.2; clear hh
                go_upto_region 11 with fail
                clear f0 f1 f2 f3 f4 f5 f6 f7 f8 f9 f10 f11 f12
                refine wp_region_held_drew (S := (fun w' => (World.cell? w' ⟨w.heap.size, 0, none⟩ = some (.string nm3) ∧ World.cell? w' ⟨w.heap.size, 1, none⟩ = some (.slice a k c) ∧ World.cell? w' ⟨w.heap.size, 2, none⟩ = some (.int .i64 au3)) ∧ (World.cell? w' ⟨w.heap.size + 1, 0, none⟩ = some (.int .i64 pk) ∧ World.cell? w' ⟨w.heap.size + 1, 1, none⟩ = some (.int .i64 pn) ∧ World.cell? w' ⟨w.heap.size + 1, 2, none⟩ = some (.string pt)))) (by kernel_rfl) ⟨Bag.cs3 (Bag.drew1 S11.out) 0 rfl, Bag.cs3 (Bag.drew1 S11.out) 1 rfl⟩ (fun hS => ?_)
                have S12 := Lib.hid (show Sl.Sep w _ [L4.boxR w.heap.size 26 #[.string nm3, .slice a k c, .int .i64 au3], L4.boxR (w.heap.size + 1) 28 #[.int .i64 pk, .int .i64 pn, .string pt], L4.boxR (w.heap.size + 1 + 1) 41 #[.slice ra M rc], L4.boxR (w.heap.size + 1 + 1 + 1) 26 #[.string ⟨#[]⟩, .slice none 0 0, .int .i64 0], Sv.ownV 43 4 a3 c3 k (cellsI ys), L4.boxR g1 26 #[.string nm3, .slice a3 k c3, .int .i64 au3], Bag.bag (rowsI ys)] from Bag.drew1 S11.out)
                clear S11
                generalize World.drew _ = w7 at hS S12 ⊢
                refine tk 0 rfl ?_
                try simp only [zp0, zp1, zp2, zp3, zp4]
                refine tk 1 rfl ?_
                try simp only [zp0, zp1, zp2, zp3, zp4]
                refine tk 2 rfl ?_
                try simp only [zp0, zp1, zp2, zp3, zp4]
                refine tk 3 rfl ?_
                try simp only [zp0, zp1, zp2, zp3, zp4]
                refine tk 4 rfl ?_
                try simp only [zp0, zp1, zp2, zp3, zp4]
                refine tk 5 rfl ?_
                try simp only [zp0, zp1, zp2, zp3, zp4]
                refine sk 6 rfl ?_
                try simp only [zp0, zp1, zp2, zp3, zp4]
                refine sk 7 rfl ?_
                try simp only [zp0, zp1, zp2, zp3, zp4]
                refine sk 8 rfl ?_
                try simp only [zp0, zp1, zp2, zp3, zp4]
                refine sk 9 rfl ?_
                try simp only [zp0, zp1, zp2, zp3, zp4]
                refine sk 10 rfl ?_
                try simp only [zp0, zp1, zp2, zp3, zp4]
                refine sk 11 rfl ?_
                try simp only [zp0, zp1, zp2, zp3, zp4]
                refine sk 12 rfl ?_
                try simp only [zp0, zp1, zp2, zp3, zp4]
                refine Reg.skip_one (i := 13) rfl (by kernel_rfl) (by rfl) (by assumption) ?_
                try simp only [zp0, zp1, zp2, zp3, zp4]
                refine sk 14 rfl ?_
                try simp only [zp0, zp1, zp2, zp3, zp4]
                refine tk 15 rfl ?_
                try simp only [zp0, zp1, zp2, zp3, zp4]
                refine wpAnyH_done (by kernel_rfl) ?_ _
                have hh := Bag.cs3 S12.out 0 rfl
                have f0 := hh.1; have f1 := hh.2.1; have f2 := hh.2.2; clear hh
                have hh := Bag.cs3 S12.out 1 rfl
                have f3 := hh.1; have f4 := hh.2.1; have f5 := hh.2.2; clear hh
                have f6 := Bag.cs1 S12.out 2 rfl
                have hh := Bag.cs3 S12.out 3 rfl
                have f7 := hh.1; have f8 := hh.2.1; have f9 := hh.2.2; clear hh
                have hh := Bag.cs3 S12.out 5 rfl
                have f10 := hh.1; have f11 := hh.2.1; have f12 := hh.2.2; clear hh
                clear f0 f1 f2 f3 f4 f5 f6 f7 f8 f9 f10 f11 f12
                have hky : k ≤ ys.length := by omega
                have hck : (k : Int) ≤ (c3 : Int) := by have := (Sv.own_at S12.out 4 rfl).cap; omega
                have S13 := Lib.hid (show Sl.Sep w _ [L4.boxR w.heap.size 26 #[.string nm3, .slice a k c, .int .i64 au3], L4.boxR (w.heap.size + 1) 28 #[.int .i64 pk, .int .i64 pn, .string pt], L4.boxR (w.heap.size + 1 + 1) 41 #[.slice ra M rc], L4.boxR (w.heap.size + 1 + 1 + 1) 26 #[.string ⟨#[]⟩, .slice none 0 0, .int .i64 0], Sv.ownV 43 4 a3 c3 k (cellsI ys), L4.boxR g1 26 #[.string nm3, .slice a3 k c3, .int .i64 au3], Bag.bag (rowsI ys), Sv.ownV 43 4 (some ⟨w7.heap.size, 0, none⟩) 0 0 (cellsI [])] from Sv.push_own S12.out ((Below.refl _ _).alloc (Nat.le_refl _) _) (OwnV.madeAt w7 43 4 0 w7.heap.size #[] rfl (Nat.le_refl _) rfl (by decide)))
                clear S12
                have hh := Bag.cs3 S13.out 5 rfl
                have f0 := hh.1; have f1 := hh.2.1; have f2 := hh.2.2; clear hh
                go_wp2_with (at_builtin; refine L5.wpList_append_v S13.out 7 rfl rfl _ _ 24 (by rfl) i0 (.agg #[.int .i64 0, .int .i64 0, .string ⟨#[]⟩, .slice none 0 0]) 56 Try.underlying24 HI.out.1 HI.out.2.1 HI.out.2.2.1 HI.out.2.2.2 rfl (by omega) _ (by rfl) rfl _ _ k _ _ (cellsI (ys.take k)) (by rfl) rfl (reads_head (Sv.own_at S13.out 4 rfl).reads k) (by rw [cellsI_length, List.length_take, Nat.min_eq_left hky]) (cellsI_one _) (by unfold maxLen; omega) (by omega) ?_; intro a2' c2' w8 hA)
                clear f0 f1 f2
                have S14 := Lib.hid (show Sl.Sep w w8 [L4.boxR w.heap.size 26 #[.string nm3, .slice a k c, .int .i64 au3], L4.boxR (w.heap.size + 1) 28 #[.int .i64 pk, .int .i64 pn, .string pt], L4.boxR (w.heap.size + 1 + 1) 41 #[.slice ra M rc], L4.boxR (w.heap.size + 1 + 1 + 1) 26 #[.string ⟨#[]⟩, .slice none 0 0, .int .i64 0], Sv.ownV 43 4 a3 c3 k (cellsI ys), L4.boxR g1 26 #[.string nm3, .slice a3 k c3, .int .i64 au3], Bag.bag (rowsI ys), Sv.ownV 43 4 a2' c2' k (cellsI (ys.take k))] from (by have h := hA; rw [Nat.zero_add] at h; exact h))
                clear S13
                clear hA
                have hh := Bag.cs3 S14.out 0 rfl
                have f0 := hh.1; have f1 := hh.2.1; have f2 := hh.2.2; clear hh
                have hh := Bag.cs3 S14.out 1 rfl
                have f3 := hh.1; have f4 := hh.2.1; have f5 := hh.2.2; clear hh
                have f6 := Bag.cs1 S14.out 2 rfl
                have hh := Bag.cs3 S14.out 3 rfl
                have f7 := hh.1; have f8 := hh.2.1; have f9 := hh.2.2; clear hh
                have hh := Bag.cs3 S14.out 5 rfl
                have f10 := hh.1; have f11 := hh.2.1; have f12 := hh.2.2; clear hh
                go_upto_region 14 with fail
                clear f0 f1 f2 f3 f4 f5 f6 f7 f8 f9 f10 f11 f12
                refine wp_region_held_drew (S := (fun w' => (World.cell? w' ⟨w.heap.size + 1, 0, none⟩ = some (.int .i64 pk) ∧ World.cell? w' ⟨w.heap.size + 1, 1, none⟩ = some (.int .i64 pn) ∧ World.cell? w' ⟨w.heap.size + 1, 2, none⟩ = some (.string pt)) ∧ (World.cell? w' ⟨w.heap.size + 1 + 1, 0, none⟩ = some (.slice ra M rc)))) (by kernel_rfl) ⟨Bag.cs3 (Bag.drew1 S14.out) 1 rfl, Bag.cs1 (Bag.drew1 S14.out) 2 rfl⟩ (fun hS => ?_)
                have S15 := Lib.hid (show Sl.Sep w _ [L4.boxR w.heap.size 26 #[.string nm3, .slice a k c, .int .i64 au3], L4.boxR (w.heap.size + 1) 28 #[.int .i64 pk, .int .i64 pn, .string pt], L4.boxR (w.heap.size + 1 + 1) 41 #[.slice ra M rc], L4.boxR (w.heap.size + 1 + 1 + 1) 26 #[.string ⟨#[]⟩, .slice none 0 0, .int .i64 0], Sv.ownV 43 4 a3 c3 k (cellsI ys), L4.boxR g1 26 #[.string nm3, .slice a3 k c3, .int .i64 au3], Bag.bag (rowsI ys), Sv.ownV 43 4 a2' c2' k (cellsI (ys.take k))] from Bag.drew1 S14.out)
                clear S14
                generalize World.drew _ = w9 at hS S15 ⊢
                refine tk 0 rfl ?_
                try simp only [zp0, zp1, zp2, zp3, zp4]
                refine tk 1 rfl ?_
                try simp only [zp0, zp1, zp2, zp3, zp4]
                refine tk 2 rfl ?_
                try simp only [zp0, zp1, zp2, zp3, zp4]
                refine Reg.one_op (i := 3) rfl (by kernel_rfl) (fun K hK => ?_)
                go_simp
                go_at_call 128
                refine (HRC.out _ S15.out.old).mono ?_
                rintro e w10 ⟨a1, c1, rfl, ho, hb⟩
                have S16 := Lib.hid (show Sl.Sep w _ [L4.boxR w.heap.size 26 #[.string nm3, .slice a k c, .int .i64 au3], L4.boxR (w.heap.size + 1) 28 #[.int .i64 pk, .int .i64 pn, .string pt], L4.boxR (w.heap.size + 1 + 1) 41 #[.slice ra M rc], L4.boxR (w.heap.size + 1 + 1 + 1) 26 #[.string ⟨#[]⟩, .slice none 0 0, .int .i64 0], Sv.ownV 43 4 a3 c3 k (cellsI ys), L4.boxR g1 26 #[.string nm3, .slice a3 k c3, .int .i64 au3], Bag.bag (rowsI ys), Sv.ownV 43 4 a2' c2' k (cellsI (ys.take k)), Sv.ownV 107 2 a1 c1 M (cellsF rl)] from Sv.push_own S15.out hb ho)
                clear S15
                clear hb ho
                go_wp2_with fail
                refine hK.out _ _ ⟨Bag.cs3 S16.out 1 rfl, Bag.cs1 S16.out 2 rfl⟩ (fun hS => ?_)
                clear hK K
                try simp only [zp0, zp1, zp2, zp3, zp4]
                refine tk 4 rfl ?_
                try simp only [zp0, zp1, zp2, zp3, zp4]
                refine Reg.one_op (i := 5) rfl (by kernel_rfl) (fun K hK => ?_)
                go_simp
                have S17 := Lib.hid (show Sl.Sep w _ [L4.boxR w.heap.size 26 #[.string nm3, .slice a k c, .int .i64 au3], L4.boxR (w.heap.size + 1) 28 #[.int .i64 pk, .int .i64 pn, .string pt], L4.boxR (w.heap.size + 1 + 1) 41 #[.slice ra M rc], L4.boxR (w.heap.size + 1 + 1 + 1) 26 #[.string ⟨#[]⟩, .slice none 0 0, .int .i64 0], Sv.ownV 43 4 a3 c3 k (cellsI ys), L4.boxR g1 26 #[.string nm3, .slice a3 k c3, .int .i64 au3], Bag.bag (rowsI ys), Sv.ownV 43 4 a2' c2' k (cellsI (ys.take k)), Sv.ownV 107 2 a1 c1 M (cellsF rl), Sv.ownV 43 4 (some ⟨w10.heap.size, 0, none⟩) 1 1 ([.int .i64 pk, .int .i64 pn, .string pt, .slice a1 M c1])] from Sv.push_own S16.out ((Below.refl _ _).alloc (Nat.le_refl _) _) (OwnV.madeAt w10 43 4 1 w10.heap.size #[.int .i64 pk, .int .i64 pn, .string pt, .slice a1 M c1] rfl (Nat.le_refl _) rfl (by decide)))
                clear S16
                obtain ⟨g3, hg⟩ : ∃ g', g' = w10.heap.size := ⟨_, rfl⟩
                rw [← hg] at S17 ⊢
                clear hg
                generalize w10.alloc (.cells #[.int .i64 pk, .int .i64 pn, .string pt, .slice a1 M c1] 43) = w11 at S17 ⊢
                refine hK.out _ _ ⟨Bag.cs3 S17.out 1 rfl, Bag.cs1 S17.out 2 rfl⟩ (fun hS => ?_)
                clear hK K
                try simp only [zp0, zp1, zp2, zp3, zp4]
                refine Reg.one_op (i := 6) rfl (by kernel_rfl) (fun K hK => ?_)
                refine Sv.step_append_s S17.out 7 rfl rfl _ _ 24 (by rfl) i0 (.agg #[.int .i64 0, .int .i64 0, .string ⟨#[]⟩, .slice none 0 0]) 56 Try.underlying24 HI.out.1 HI.out.2.1 HI.out.2.2.1 HI.out.2.2.2 rfl (by omega) _ (by rfl) rfl _ _ 1 _ _ ([.int .i64 pk, .int .i64 pn, .string pt, .slice a1 M c1]) (by rfl) rfl ((Sv.own_at S17.out 9 rfl).reads) rfl (by intro u hu; simp at hu; rcases hu with rfl | rfl | rfl | rfl <;> rfl) (by unfold maxLen; omega) (by omega) ?_
                intro a4' c4' w12 hA
                have S18 := Lib.hid (show Sl.Sep w _ [L4.boxR w.heap.size 26 #[.string nm3, .slice a k c, .int .i64 au3], L4.boxR (w.heap.size + 1) 28 #[.int .i64 pk, .int .i64 pn, .string pt], L4.boxR (w.heap.size + 1 + 1) 41 #[.slice ra M rc], L4.boxR (w.heap.size + 1 + 1 + 1) 26 #[.string ⟨#[]⟩, .slice none 0 0, .int .i64 0], Sv.ownV 43 4 a3 c3 k (cellsI ys), L4.boxR g1 26 #[.string nm3, .slice a3 k c3, .int .i64 au3], Bag.bag (rowsI ys), Sv.ownV 43 4 a4' c4' (k + 1) (cellsI (ys.take k) ++ ([.int .i64 pk, .int .i64 pn, .string pt, .slice a1 M c1])), Sv.ownV 107 2 a1 c1 M (cellsF rl), Sv.ownV 43 4 (some ⟨g3, 0, none⟩) 1 1 ([.int .i64 pk, .int .i64 pn, .string pt, .slice a1 M c1])] from hA)
                clear S17
                clear hA
                refine hK.out _ _ ⟨Bag.cs3 S18.out 1 rfl, Bag.cs1 S18.out 2 rfl⟩ (fun hS => ?_)
                clear hK K
                try simp only [zp0, zp1, zp2, zp3, zp4]
                refine tk 7 rfl ?_
                try simp only [zp0, zp1, zp2, zp3, zp4]
                refine wpAnyH_done (by kernel_rfl) ?_ _
                have hh := Bag.cs3 S18.out 0 rfl
                have f0 := hh.1; have f1 := hh.2.1; have f2 := hh.2.2; clear hh
                have hh := Bag.cs3 S18.out 1 rfl
                have f3 := hh.1; have f4 := hh.2.1; have f5 := hh.2.2; clear hh
                have f6 := Bag.cs1 S18.out 2 rfl
                have hh := Bag.cs3 S18.out 3 rfl
                have f7 := hh.1; have f8 := hh.2.1; have f9 := hh.2.2; clear hh
                have hh := Bag.cs3 S18.out 5 rfl
                have f10 := hh.1; have f11 := hh.2.1; have f12 := hh.2.2; clear hh
                clear f0 f1 f2 f3 f4 f5 f6 f7 f8 f9 f10 f11 f12
                have hh := Bag.cs3 S18.out 5 rfl
                have f0 := hh.1; have f1 := hh.2.1; have f2 := hh.2.2; clear hh
                have hcl := (Sv.own_at S18.out 4 rfl).cap
                have hnl : ys.length ≤ c3 := by omega
                have HNL := Lib.hid hnl
                clear hnl hcl
                have hkN : (k : Int) ≤ (k : Int) := by omega
                have hNc : (k : Int) ≤ (c3 : Int) := by have := HNL.out; omega
                by_cases h9 : c3 = k
                · have h8 : (c3 = k) = True := eq_true h9
                  clear h9
                  go_upto_region 16 with (at_builtin; refine L5.wpList_append_v S18.out 7 rfl rfl _ _ 24 (by rfl) i0 (.agg #[.int .i64 0, .int .i64 0, .string ⟨#[]⟩, .slice none 0 0]) 56 Try.underlying24 HI.out.1 HI.out.2.1 HI.out.2.2.1 HI.out.2.2.2 rfl (by omega) _ (by rfl) rfl _ _ 0 _ _ (cellsI []) (by rfl) rfl (Sl.Reads.nil (B := 0)) rfl (cellsI_one _) (by unfold maxLen; omega) (by omega) ?_; intro a5' c5' w13 hA; have SA := Lib.hid (show Sl.Sep w w13 [L4.boxR w.heap.size 26 #[.string nm3, .slice a k c, .int .i64 au3], L4.boxR (w.heap.size + 1) 28 #[.int .i64 pk, .int .i64 pn, .string pt], L4.boxR (w.heap.size + 1 + 1) 41 #[.slice ra M rc], L4.boxR (w.heap.size + 1 + 1 + 1) 26 #[.string ⟨#[]⟩, .slice none 0 0, .int .i64 0], Sv.ownV 43 4 a3 c3 k (cellsI ys), L4.boxR g1 26 #[.string nm3, .slice a3 k c3, .int .i64 au3], Bag.bag (rowsI ys), Sv.ownV 43 4 (a5') (c5') (k + 1) ((cellsI (ys.take k) ++ ([.int .i64 pk, .int .i64 pn, .string pt, .slice a1 M c1])) ++ cellsI []), Sv.ownV 107 2 a1 c1 M (cellsF rl), Sv.ownV 43 4 (some ⟨g3, 0, none⟩) 1 1 ([.int .i64 pk, .int .i64 pn, .string pt, .slice a1 M c1])] from hA); clear hA; have f0 : World.cell? _ ⟨g1, 1, none⟩ = some (.slice a3 k c3) := Bag.cell_at SA.out 5 rfl 1 rfl; have z1 := Bag.free_at SA.out 5 rfl 1)
                  have S19 := SA
                  clear SA S18 f0 z1
                  have S20 := Lib.hid (show Sl.Sep w _ [L4.boxR w.heap.size 26 #[.string nm3, .slice a k c, .int .i64 au3], L4.boxR (w.heap.size + 1) 28 #[.int .i64 pk, .int .i64 pn, .string pt], L4.boxR (w.heap.size + 1 + 1) 41 #[.slice ra M rc], L4.boxR (w.heap.size + 1 + 1 + 1) 26 #[.string ⟨#[]⟩, .slice none 0 0, .int .i64 0], Sv.ownV 43 4 a3 c3 k (cellsI ys), L4.boxR g1 26 #[.string nm3, .slice a5' (k + 1) c5', .int .i64 au3], Bag.bag (rowsI ys), Sv.ownV 43 4 a5' c5' (k + 1) ((cellsI (ys.take k) ++ ([.int .i64 pk, .int .i64 pn, .string pt, .slice a1 M c1])) ++ cellsI []), Sv.ownV 107 2 a1 c1 M (cellsF rl), Sv.ownV 43 4 (some ⟨g3, 0, none⟩) 1 1 ([.int .i64 pk, .int .i64 pn, .string pt, .slice a1 M c1])] from L5.put_box5 (S19.out) 5 rfl 1 (.slice a5' (k + 1) c5'))
                  clear S19
                  have S21 := Lib.hid (show Sl.Sep w _ [L4.boxR w.heap.size 26 #[.string nm3, .slice a k c, .int .i64 au3], L4.boxR (w.heap.size + 1) 28 #[.int .i64 pk, .int .i64 pn, .string pt], L4.boxR (w.heap.size + 1 + 1) 41 #[.slice ra M rc], L4.boxR (w.heap.size + 1 + 1 + 1) 26 #[.string ⟨#[]⟩, .slice none 0 0, .int .i64 0], L4.boxR g1 26 #[.string nm3, .slice a5' (k + 1) c5', .int .i64 au3], Bag.bag (rowsI ys), Sv.ownV 43 4 a5' c5' (k + 1) ((cellsI (ys.take k) ++ ([.int .i64 pk, .int .i64 pn, .string pt, .slice a1 M c1])) ++ cellsI []), Sv.ownV 107 2 a1 c1 M (cellsF rl)] from Bag.take S20.out [0, 1, 2, 3, 5, 6, 7, 8] (by rfl) (by decide))
                  clear S20
                  obtain ⟨ba, hba⟩ : ∃ b, L1.inB pn (au3 + 1) 1000000 = b := ⟨_, rfl⟩
                  have HIA := fun w => L1.l1In_any pn (au3 + 1) 1000000 w
                  rw [hba] at HIA
                  replace HIA := Lib.hid HIA
                  have hau0 : 0 ≤ au3 := HAU.out.1
                  have hau1 : au3 ≤ 1000000 := HAU.out.2
                  have HBA := Lib.hid hba
                  clear hba
                  have hh := Bag.cs3 S21.out 0 rfl
                  have f0 := hh.1; have f1 := hh.2.1; have f2 := hh.2.2; clear hh
                  have hh := Bag.cs3 S21.out 1 rfl
                  have f3 := hh.1; have f4 := hh.2.1; have f5 := hh.2.2; clear hh
                  have f6 := Bag.cs1 S21.out 2 rfl
                  have hh := Bag.cs3 S21.out 3 rfl
                  have f7 := hh.1; have f8 := hh.2.1; have f9 := hh.2.2; clear hh
                  have hh := Bag.cs3 S21.out 4 rfl
                  have f10 := hh.1; have f11 := hh.2.1; have f12 := hh.2.2; clear hh
                  by_cases hk1 : pk = 1
                  · subst hk1
                    cases ba with
                    | false =>
                      go_wp2_with fail
                      go_at_call 71
                      refine (HIA.out _).mono ?_
                      rintro e w14 ⟨rfl, rfl⟩
                      clear f0 f1 f2 f3 f4 f5 f6 f7 f8 f9 f10 f11 f12
                      have hh := Bag.cs3 S21.out 0 rfl
                      have f0 := hh.1; have f1 := hh.2.1; have f2 := hh.2.2; clear hh
                      have hh := Bag.cs3 S21.out 1 rfl
                      have f3 := hh.1; have f4 := hh.2.1; have f5 := hh.2.2; clear hh
                      have f6 := Bag.cs1 S21.out 2 rfl
                      have hh := Bag.cs3 S21.out 3 rfl
                      have f7 := hh.1; have f8 := hh.2.1; have f9 := hh.2.2; clear hh
                      have hh := Bag.cs3 S21.out 4 rfl
                      have f10 := hh.1; have f11 := hh.2.1; have f12 := hh.2.2; clear hh
                      have hh := Bag.fs3 S21.out 3 rfl
                      have z0 := hh.1; have z1 := hh.2.1; have z2 := hh.2.2; clear hh
                      go_wp2_with fail
                      clear f0 f1 f2 f3 f4 f5 f6 f7 f8 f9 f10 f11 f12 z0 z1 z2
                      have S22 := Lib.hid (show Sl.Sep w _ [L4.boxR w.heap.size 26 #[.string nm3, .slice a k c, .int .i64 au3], L4.boxR (w.heap.size + 1) 28 #[.int .i64 1, .int .i64 pn, .string pt], L4.boxR (w.heap.size + 1 + 1) 41 #[.slice ra M rc], L4.boxR (w.heap.size + 1 + 1 + 1) 26 #[.string nm3, .slice a5' (k + 1) c5', .int .i64 au3], L4.boxR g1 26 #[.string nm3, .slice a5' (k + 1) c5', .int .i64 au3], Bag.bag (rowsI ys), Sv.ownV 43 4 a5' c5' (k + 1) ((cellsI (ys.take k) ++ ([.int .i64 1, .int .i64 pn, .string pt, .slice a1 M c1])) ++ cellsI []), Sv.ownV 107 2 a1 c1 M (cellsF rl)] from L5.put_box5 (L5.put_box5 (L5.put_box5 (S21.out) 3 rfl 0 (.string nm3)) 3 rfl 1 (.slice a5' (k + 1) c5')) 3 rfl 2 (.int .i64 au3))
                      clear S21
                      have hh := Bag.cs3 S22.out 3 rfl
                      have f0 := hh.1; have f1 := hh.2.1; have f2 := hh.2.2; clear hh
                      refine bodyPost_ret (v := .tuple #[.agg #[.string nm3, .slice a5' (k + 1) c5', .int .i64 au3], .bool true]) (by simp [results, Try.results134, go_sem, *]) rfl ?_
                      clear f0 f1 f2
                      have HX9 := Lib.hid (show nextAuto au3 ⟨1, pn, pt⟩ = au3 from by unfold nextAuto; dsimp only; rw [HBA.out, Bool.and_false]; rfl)
                      have hM := HM.out
                      subst hM
                      have S90 := Lib.hid (Bag.bag_of_one S22.out 7 (r := (LI.mk ⟨1, pn, pt⟩ a1 c1 rl).row) rfl)
                      have S91 := Lib.hid (Bag.bag_join S90.out 5 7 (by decide) rfl rfl)
                      have S92 := Lib.hid (Bag.bag_perm S91.out 5 rfl (rowsI_ins ys k ⟨⟨1, pn, pt⟩, a1, c1, rl⟩))
                      have hlz : (ys.take k ++ ⟨⟨1, pn, pt⟩, a1, c1, rl⟩ :: ys.drop k).length = k + 1 := by rw [List.length_append, List.length_cons, List.length_take, List.length_drop]; omega
                      have hcz : cellsI (ys.take k ++ ⟨⟨1, pn, pt⟩, a1, c1, rl⟩ :: ys.drop k) = (cellsI (ys.take k) ++ ([.int .i64 1, .int .i64 pn, .string pt, .slice a1 rl.length c1])) ++ cellsI [] := by rw [cellsI_append, cellsI_cons]; rw [List.drop_of_length_le (show ys.length ≤ k by omega)]; simp [cellsI]
                      have S93 := Lib.hid (Bag.bag_of_one S92.out 6 (r := rowI a5' c5' (ys.take k ++ ⟨⟨1, pn, pt⟩, a1, c1, rl⟩ :: ys.drop k)) (by unfold RowS.res rowI; dsimp only; rw [hlz, hcz]; rfl))
                      have S94 := Lib.hid (Bag.bag_join S93.out 6 5 (by decide) rfl rfl)
                      refine ⟨⟨nm3, a5', c5', ys.take k ++ ⟨⟨1, pn, pt⟩, a1, c1, rl⟩ :: ys.drop k, au3⟩, ?_, ?_, ?_, S94.out.old⟩
                      · rw [HE.out]; unfold LS.v LS.cells; dsimp only; rw [hlz]
                      · rw [HE.out, HX9.out, HPOS.out]; unfold LS.con; dsimp only; rw [conI_ins, HCE.out]; rfl
                      · have h := Bag.bag_from S94.out 6 rfl
                        unfold LS.rows; exact h
                    | true =>
                      go_wp2_with fail
                      go_at_call 71
                      refine (HIA.out _).mono ?_
                      rintro e w14 ⟨rfl, rfl⟩
                      clear f0 f1 f2 f3 f4 f5 f6 f7 f8 f9 f10 f11 f12
                      have hh := Bag.cs3 S21.out 0 rfl
                      have f0 := hh.1; have f1 := hh.2.1; have f2 := hh.2.2; clear hh
                      have hh := Bag.cs3 S21.out 1 rfl
                      have f3 := hh.1; have f4 := hh.2.1; have f5 := hh.2.2; clear hh
                      have f6 := Bag.cs1 S21.out 2 rfl
                      have hh := Bag.cs3 S21.out 3 rfl
                      have f7 := hh.1; have f8 := hh.2.1; have f9 := hh.2.2; clear hh
                      have hh := Bag.cs3 S21.out 4 rfl
                      have f10 := hh.1; have f11 := hh.2.1; have f12 := hh.2.2; clear hh
                      have hh := Bag.fs3 S21.out 4 rfl
                      have z0 := hh.1; have z1 := hh.2.1; have z2 := hh.2.2; clear hh
                      go_upto_region 18 with fail
                      clear f0 f1 f2 f3 f4 f5 f6 f7 f8 f9 f10 f11 f12 z0 z1 z2
                      have S22 := Lib.hid (show Sl.Sep w _ [L4.boxR w.heap.size 26 #[.string nm3, .slice a k c, .int .i64 au3], L4.boxR (w.heap.size + 1) 28 #[.int .i64 1, .int .i64 pn, .string pt], L4.boxR (w.heap.size + 1 + 1) 41 #[.slice ra M rc], L4.boxR (w.heap.size + 1 + 1 + 1) 26 #[.string ⟨#[]⟩, .slice none 0 0, .int .i64 0], L4.boxR g1 26 #[.string nm3, .slice a5' (k + 1) c5', .int .i64 pn], Bag.bag (rowsI ys), Sv.ownV 43 4 a5' c5' (k + 1) ((cellsI (ys.take k) ++ ([.int .i64 1, .int .i64 pn, .string pt, .slice a1 M c1])) ++ cellsI []), Sv.ownV 107 2 a1 c1 M (cellsF rl)] from L5.put_box5 (S21.out) 4 rfl 2 (.int .i64 pn))
                      clear S21
                      have hh := Bag.cs3 S22.out 0 rfl
                      have f0 := hh.1; have f1 := hh.2.1; have f2 := hh.2.2; clear hh
                      have hh := Bag.cs3 S22.out 1 rfl
                      have f3 := hh.1; have f4 := hh.2.1; have f5 := hh.2.2; clear hh
                      have f6 := Bag.cs1 S22.out 2 rfl
                      have hh := Bag.cs3 S22.out 3 rfl
                      have f7 := hh.1; have f8 := hh.2.1; have f9 := hh.2.2; clear hh
                      have hh := Bag.cs3 S22.out 4 rfl
                      have f10 := hh.1; have f11 := hh.2.1; have f12 := hh.2.2; clear hh
                      have hh := Bag.fs3 S22.out 3 rfl
                      have z0 := hh.1; have z1 := hh.2.1; have z2 := hh.2.2; clear hh
                      go_wp2_with fail
                      clear f0 f1 f2 f3 f4 f5 f6 f7 f8 f9 f10 f11 f12 z0 z1 z2
                      have S23 := Lib.hid (show Sl.Sep w _ [L4.boxR w.heap.size 26 #[.string nm3, .slice a k c, .int .i64 au3], L4.boxR (w.heap.size + 1) 28 #[.int .i64 1, .int .i64 pn, .string pt], L4.boxR (w.heap.size + 1 + 1) 41 #[.slice ra M rc], L4.boxR (w.heap.size + 1 + 1 + 1) 26 #[.string nm3, .slice a5' (k + 1) c5', .int .i64 pn], L4.boxR g1 26 #[.string nm3, .slice a5' (k + 1) c5', .int .i64 pn], Bag.bag (rowsI ys), Sv.ownV 43 4 a5' c5' (k + 1) ((cellsI (ys.take k) ++ ([.int .i64 1, .int .i64 pn, .string pt, .slice a1 M c1])) ++ cellsI []), Sv.ownV 107 2 a1 c1 M (cellsF rl)] from L5.put_box5 (L5.put_box5 (L5.put_box5 (S22.out) 3 rfl 0 (.string nm3)) 3 rfl 1 (.slice a5' (k + 1) c5')) 3 rfl 2 (.int .i64 pn))
                      clear S22
                      have hh := Bag.cs3 S23.out 3 rfl
                      have f0 := hh.1; have f1 := hh.2.1; have f2 := hh.2.2; clear hh
                      refine bodyPost_ret (v := .tuple #[.agg #[.string nm3, .slice a5' (k + 1) c5', .int .i64 pn], .bool true]) (by simp [results, Try.results134, go_sem, *]) rfl ?_
                      clear f0 f1 f2
                      have HX9 := Lib.hid (show nextAuto au3 ⟨1, pn, pt⟩ = pn from by unfold nextAuto; dsimp only; rw [HBA.out]; rfl)
                      have hM := HM.out
                      subst hM
                      have S90 := Lib.hid (Bag.bag_of_one S23.out 7 (r := (LI.mk ⟨1, pn, pt⟩ a1 c1 rl).row) rfl)
                      have S91 := Lib.hid (Bag.bag_join S90.out 5 7 (by decide) rfl rfl)
                      have S92 := Lib.hid (Bag.bag_perm S91.out 5 rfl (rowsI_ins ys k ⟨⟨1, pn, pt⟩, a1, c1, rl⟩))
                      have hlz : (ys.take k ++ ⟨⟨1, pn, pt⟩, a1, c1, rl⟩ :: ys.drop k).length = k + 1 := by rw [List.length_append, List.length_cons, List.length_take, List.length_drop]; omega
                      have hcz : cellsI (ys.take k ++ ⟨⟨1, pn, pt⟩, a1, c1, rl⟩ :: ys.drop k) = (cellsI (ys.take k) ++ ([.int .i64 1, .int .i64 pn, .string pt, .slice a1 rl.length c1])) ++ cellsI [] := by rw [cellsI_append, cellsI_cons]; rw [List.drop_of_length_le (show ys.length ≤ k by omega)]; simp [cellsI]
                      have S93 := Lib.hid (Bag.bag_of_one S92.out 6 (r := rowI a5' c5' (ys.take k ++ ⟨⟨1, pn, pt⟩, a1, c1, rl⟩ :: ys.drop k)) (by unfold RowS.res rowI; dsimp only; rw [hlz, hcz]; rfl))
                      have S94 := Lib.hid (Bag.bag_join S93.out 6 5 (by decide) rfl rfl)
                      refine ⟨⟨nm3, a5', c5', ys.take k ++ ⟨⟨1, pn, pt⟩, a1, c1, rl⟩ :: ys.drop k, pn⟩, ?_, ?_, ?_, S94.out.old⟩
                      · rw [HE.out]; unfold LS.v LS.cells; dsimp only; rw [hlz]
                      · rw [HE.out, HX9.out, HPOS.out]; unfold LS.con; dsimp only; rw [conI_ins, HCE.out]; rfl
                      · have h := Bag.bag_from S94.out 6 rfl
                        unfold LS.rows; exact h
                  · have hk2 : (pk == 1) = false := by simpa using hk1
                    clear f0 f1 f2 f3 f4 f5 f6 f7 f8 f9 f10 f11 f12
                    have hh := Bag.cs3 S21.out 0 rfl
                    have f0 := hh.1; have f1 := hh.2.1; have f2 := hh.2.2; clear hh
                    have hh := Bag.cs3 S21.out 1 rfl
                    have f3 := hh.1; have f4 := hh.2.1; have f5 := hh.2.2; clear hh
                    have f6 := Bag.cs1 S21.out 2 rfl
                    have hh := Bag.cs3 S21.out 3 rfl
                    have f7 := hh.1; have f8 := hh.2.1; have f9 := hh.2.2; clear hh
                    have hh := Bag.cs3 S21.out 4 rfl
                    have f10 := hh.1; have f11 := hh.2.1; have f12 := hh.2.2; clear hh
                    have hh := Bag.fs3 S21.out 3 rfl
                    have z0 := hh.1; have z1 := hh.2.1; have z2 := hh.2.2; clear hh
                    go_wp2_with fail
                    clear f0 f1 f2 f3 f4 f5 f6 f7 f8 f9 f10 f11 f12 z0 z1 z2
                    have S22 := Lib.hid (show Sl.Sep w _ [L4.boxR w.heap.size 26 #[.string nm3, .slice a k c, .int .i64 au3], L4.boxR (w.heap.size + 1) 28 #[.int .i64 pk, .int .i64 pn, .string pt], L4.boxR (w.heap.size + 1 + 1) 41 #[.slice ra M rc], L4.boxR (w.heap.size + 1 + 1 + 1) 26 #[.string nm3, .slice a5' (k + 1) c5', .int .i64 au3], L4.boxR g1 26 #[.string nm3, .slice a5' (k + 1) c5', .int .i64 au3], Bag.bag (rowsI ys), Sv.ownV 43 4 a5' c5' (k + 1) ((cellsI (ys.take k) ++ ([.int .i64 pk, .int .i64 pn, .string pt, .slice a1 M c1])) ++ cellsI []), Sv.ownV 107 2 a1 c1 M (cellsF rl)] from L5.put_box5 (L5.put_box5 (L5.put_box5 (S21.out) 3 rfl 0 (.string nm3)) 3 rfl 1 (.slice a5' (k + 1) c5')) 3 rfl 2 (.int .i64 au3))
                    clear S21
                    have hh := Bag.cs3 S22.out 3 rfl
                    have f0 := hh.1; have f1 := hh.2.1; have f2 := hh.2.2; clear hh
                    refine bodyPost_ret (v := .tuple #[.agg #[.string nm3, .slice a5' (k + 1) c5', .int .i64 au3], .bool true]) (by simp [results, Try.results134, go_sem, *]) rfl ?_
                    clear f0 f1 f2
                    have HX9 := Lib.hid (show nextAuto au3 ⟨pk, pn, pt⟩ = au3 from by unfold nextAuto; dsimp only; rw [hk2]; rfl)
                    have hM := HM.out
                    subst hM
                    have S90 := Lib.hid (Bag.bag_of_one S22.out 7 (r := (LI.mk ⟨pk, pn, pt⟩ a1 c1 rl).row) rfl)
                    have S91 := Lib.hid (Bag.bag_join S90.out 5 7 (by decide) rfl rfl)
                    have S92 := Lib.hid (Bag.bag_perm S91.out 5 rfl (rowsI_ins ys k ⟨⟨pk, pn, pt⟩, a1, c1, rl⟩))
                    have hlz : (ys.take k ++ ⟨⟨pk, pn, pt⟩, a1, c1, rl⟩ :: ys.drop k).length = k + 1 := by rw [List.length_append, List.length_cons, List.length_take, List.length_drop]; omega
                    have hcz : cellsI (ys.take k ++ ⟨⟨pk, pn, pt⟩, a1, c1, rl⟩ :: ys.drop k) = (cellsI (ys.take k) ++ ([.int .i64 pk, .int .i64 pn, .string pt, .slice a1 rl.length c1])) ++ cellsI [] := by rw [cellsI_append, cellsI_cons]; rw [List.drop_of_length_le (show ys.length ≤ k by omega)]; simp [cellsI]
                    have S93 := Lib.hid (Bag.bag_of_one S92.out 6 (r := rowI a5' c5' (ys.take k ++ ⟨⟨pk, pn, pt⟩, a1, c1, rl⟩ :: ys.drop k)) (by unfold RowS.res rowI; dsimp only; rw [hlz, hcz]; rfl))
                    have S94 := Lib.hid (Bag.bag_join S93.out 6 5 (by decide) rfl rfl)
                    refine ⟨⟨nm3, a5', c5', ys.take k ++ ⟨⟨pk, pn, pt⟩, a1, c1, rl⟩ :: ys.drop k, au3⟩, ?_, ?_, ?_, S94.out.old⟩
                    · rw [HE.out]; unfold LS.v LS.cells; dsimp only; rw [hlz]
                    · rw [HE.out, HX9.out, HPOS.out]; unfold LS.con; dsimp only; rw [conI_ins, HCE.out]; rfl
                    · have h := Bag.bag_from S94.out 6 rfl
                      unfold LS.rows; exact h
                · have h8 : (c3 = k) = False := eq_false h9
                  clear h9
                  go_upto_region 16 with (at_builtin; refine L5.wpList_append_v S18.out 7 rfl rfl _ _ 24 (by rfl) i0 (.agg #[.int .i64 0, .int .i64 0, .string ⟨#[]⟩, .slice none 0 0]) 56 Try.underlying24 HI.out.1 HI.out.2.1 HI.out.2.2.1 HI.out.2.2.2 rfl (by omega) _ (by rfl) rfl _ _ 0 _ _ (cellsI []) (by rfl) rfl (Sl.Reads.nil (B := 0)) rfl (cellsI_one _) (by unfold maxLen; omega) (by omega) ?_; intro a5' c5' w13 hA; have SA := Lib.hid (show Sl.Sep w w13 [L4.boxR w.heap.size 26 #[.string nm3, .slice a k c, .int .i64 au3], L4.boxR (w.heap.size + 1) 28 #[.int .i64 pk, .int .i64 pn, .string pt], L4.boxR (w.heap.size + 1 + 1) 41 #[.slice ra M rc], L4.boxR (w.heap.size + 1 + 1 + 1) 26 #[.string ⟨#[]⟩, .slice none 0 0, .int .i64 0], Sv.ownV 43 4 a3 c3 k (cellsI ys), L4.boxR g1 26 #[.string nm3, .slice a3 k c3, .int .i64 au3], Bag.bag (rowsI ys), Sv.ownV 43 4 (a5') (c5') (k + 1) ((cellsI (ys.take k) ++ ([.int .i64 pk, .int .i64 pn, .string pt, .slice a1 M c1])) ++ cellsI []), Sv.ownV 107 2 a1 c1 M (cellsF rl), Sv.ownV 43 4 (some ⟨g3, 0, none⟩) 1 1 ([.int .i64 pk, .int .i64 pn, .string pt, .slice a1 M c1])] from hA); clear hA; have f0 : World.cell? _ ⟨g1, 1, none⟩ = some (.slice a3 k c3) := Bag.cell_at SA.out 5 rfl 1 rfl; have z1 := Bag.free_at SA.out 5 rfl 1)
                  have S19 := SA
                  clear SA S18 f0 z1
                  have S20 := Lib.hid (show Sl.Sep w _ [L4.boxR w.heap.size 26 #[.string nm3, .slice a k c, .int .i64 au3], L4.boxR (w.heap.size + 1) 28 #[.int .i64 pk, .int .i64 pn, .string pt], L4.boxR (w.heap.size + 1 + 1) 41 #[.slice ra M rc], L4.boxR (w.heap.size + 1 + 1 + 1) 26 #[.string ⟨#[]⟩, .slice none 0 0, .int .i64 0], Sv.ownV 43 4 a3 c3 k (cellsI ys), L4.boxR g1 26 #[.string nm3, .slice a5' (k + 1) c5', .int .i64 au3], Bag.bag (rowsI ys), Sv.ownV 43 4 a5' c5' (k + 1) ((cellsI (ys.take k) ++ ([.int .i64 pk, .int .i64 pn, .string pt, .slice a1 M c1])) ++ cellsI []), Sv.ownV 107 2 a1 c1 M (cellsF rl), Sv.ownV 43 4 (some ⟨g3, 0, none⟩) 1 1 ([.int .i64 pk, .int .i64 pn, .string pt, .slice a1 M c1])] from L5.put_box5 (S19.out) 5 rfl 1 (.slice a5' (k + 1) c5'))
                  clear S19
                  have S21 := Lib.hid (show Sl.Sep w _ [L4.boxR w.heap.size 26 #[.string nm3, .slice a k c, .int .i64 au3], L4.boxR (w.heap.size + 1) 28 #[.int .i64 pk, .int .i64 pn, .string pt], L4.boxR (w.heap.size + 1 + 1) 41 #[.slice ra M rc], L4.boxR (w.heap.size + 1 + 1 + 1) 26 #[.string ⟨#[]⟩, .slice none 0 0, .int .i64 0], L4.boxR g1 26 #[.string nm3, .slice a5' (k + 1) c5', .int .i64 au3], Bag.bag (rowsI ys), Sv.ownV 43 4 a5' c5' (k + 1) ((cellsI (ys.take k) ++ ([.int .i64 pk, .int .i64 pn, .string pt, .slice a1 M c1])) ++ cellsI []), Sv.ownV 107 2 a1 c1 M (cellsF rl)] from Bag.take S20.out [0, 1, 2, 3, 5, 6, 7, 8] (by rfl) (by decide))
                  clear S20
                  obtain ⟨ba, hba⟩ : ∃ b, L1.inB pn (au3 + 1) 1000000 = b := ⟨_, rfl⟩
                  have HIA := fun w => L1.l1In_any pn (au3 + 1) 1000000 w
                  rw [hba] at HIA
                  replace HIA := Lib.hid HIA
                  have hau0 : 0 ≤ au3 := HAU.out.1
                  have hau1 : au3 ≤ 1000000 := HAU.out.2
                  have HBA := Lib.hid hba
                  clear hba
                  have hh := Bag.cs3 S21.out 0 rfl
                  have f0 := hh.1; have f1 := hh.2.1; have f2 := hh.2.2; clear hh
                  have hh := Bag.cs3 S21.out 1 rfl
                  have f3 := hh.1; have f4 := hh.2.1; have f5 := hh.2.2; clear hh
                  have f6 := Bag.cs1 S21.out 2 rfl
                  have hh := Bag.cs3 S21.out 3 rfl
                  have f7 := hh.1; have f8 := hh.2.1; have f9 := hh.2.2; clear hh
                  have hh := Bag.cs3 S21.out 4 rfl
                  have f10 := hh.1; have f11 := hh.2.1; have f12 := hh.2.2; clear hh
                  by_cases hk1 : pk = 1
                  · subst hk1
                    cases ba with
                    | false =>
                      go_wp2_with fail
                      go_at_call 71
                      refine (HIA.out _).mono ?_
                      rintro e w14 ⟨rfl, rfl⟩
                      clear f0 f1 f2 f3 f4 f5 f6 f7 f8 f9 f10 f11 f12
                      have hh := Bag.cs3 S21.out 0 rfl
                      have f0 := hh.1; have f1 := hh.2.1; have f2 := hh.2.2; clear hh
                      have hh := Bag.cs3 S21.out 1 rfl
                      have f3 := hh.1; have f4 := hh.2.1; have f5 := hh.2.2; clear hh
                      have f6 := Bag.cs1 S21.out 2 rfl
                      have hh := Bag.cs3 S21.out 3 rfl
                      have f7 := hh.1; have f8 := hh.2.1; have f9 := hh.2.2; clear hh
                      have hh := Bag.cs3 S21.out 4 rfl
                      have f10 := hh.1; have f11 := hh.2.1; have f12 := hh.2.2; clear hh
                      have hh := Bag.fs3 S21.out 3 rfl
                      have z0 := hh.1; have z1 := hh.2.1; have z2 := hh.2.2; clear hh
                      go_wp2_with fail
                      clear f0 f1 f2 f3 f4 f5 f6 f7 f8 f9 f10 f11 f12 z0 z1 z2
                      have S22 := Lib.hid (show Sl.Sep w _ [L4.boxR w.heap.size 26 #[.string nm3, .slice a k c, .int .i64 au3], L4.boxR (w.heap.size + 1) 28 #[.int .i64 1, .int .i64 pn, .string pt], L4.boxR (w.heap.size + 1 + 1) 41 #[.slice ra M rc], L4.boxR (w.heap.size + 1 + 1 + 1) 26 #[.string nm3, .slice a5' (k + 1) c5', .int .i64 au3], L4.boxR g1 26 #[.string nm3, .slice a5' (k + 1) c5', .int .i64 au3], Bag.bag (rowsI ys), Sv.ownV 43 4 a5' c5' (k + 1) ((cellsI (ys.take k) ++ ([.int .i64 1, .int .i64 pn, .string pt, .slice a1 M c1])) ++ cellsI []), Sv.ownV 107 2 a1 c1 M (cellsF rl)] from L5.put_box5 (L5.put_box5 (L5.put_box5 (S21.out) 3 rfl 0 (.string nm3)) 3 rfl 1 (.slice a5' (k + 1) c5')) 3 rfl 2 (.int .i64 au3))
                      clear S21
                      have hh := Bag.cs3 S22.out 3 rfl
                      have f0 := hh.1; have f1 := hh.2.1; have f2 := hh.2.2; clear hh
                      refine bodyPost_ret (v := .tuple #[.agg #[.string nm3, .slice a5' (k + 1) c5', .int .i64 au3], .bool true]) (by simp [results, Try.results134, go_sem, *]) rfl ?_
                      clear f0 f1 f2
                      have HX9 := Lib.hid (show nextAuto au3 ⟨1, pn, pt⟩ = au3 from by unfold nextAuto; dsimp only; rw [HBA.out, Bool.and_false]; rfl)
                      have hM := HM.out
                      subst hM
                      have S90 := Lib.hid (Bag.bag_of_one S22.out 7 (r := (LI.mk ⟨1, pn, pt⟩ a1 c1 rl).row) rfl)
                      have S91 := Lib.hid (Bag.bag_join S90.out 5 7 (by decide) rfl rfl)
                      have S92 := Lib.hid (Bag.bag_perm S91.out 5 rfl (rowsI_ins ys k ⟨⟨1, pn, pt⟩, a1, c1, rl⟩))
                      have hlz : (ys.take k ++ ⟨⟨1, pn, pt⟩, a1, c1, rl⟩ :: ys.drop k).length = k + 1 := by rw [List.length_append, List.length_cons, List.length_take, List.length_drop]; omega
                      have hcz : cellsI (ys.take k ++ ⟨⟨1, pn, pt⟩, a1, c1, rl⟩ :: ys.drop k) = (cellsI (ys.take k) ++ ([.int .i64 1, .int .i64 pn, .string pt, .slice a1 rl.length c1])) ++ cellsI [] := by rw [cellsI_append, cellsI_cons]; rw [List.drop_of_length_le (show ys.length ≤ k by omega)]; simp [cellsI]
                      have S93 := Lib.hid (Bag.bag_of_one S92.out 6 (r := rowI a5' c5' (ys.take k ++ ⟨⟨1, pn, pt⟩, a1, c1, rl⟩ :: ys.drop k)) (by unfold RowS.res rowI; dsimp only; rw [hlz, hcz]; rfl))
                      have S94 := Lib.hid (Bag.bag_join S93.out 6 5 (by decide) rfl rfl)
                      refine ⟨⟨nm3, a5', c5', ys.take k ++ ⟨⟨1, pn, pt⟩, a1, c1, rl⟩ :: ys.drop k, au3⟩, ?_, ?_, ?_, S94.out.old⟩
                      · rw [HE.out]; unfold LS.v LS.cells; dsimp only; rw [hlz]
                      · rw [HE.out, HX9.out, HPOS.out]; unfold LS.con; dsimp only; rw [conI_ins, HCE.out]; rfl
                      · have h := Bag.bag_from S94.out 6 rfl
                        unfold LS.rows; exact h
                    | true =>
                      go_wp2_with fail
                      go_at_call 71
                      refine (HIA.out _).mono ?_
                      rintro e w14 ⟨rfl, rfl⟩
                      clear f0 f1 f2 f3 f4 f5 f6 f7 f8 f9 f10 f11 f12
                      have hh := Bag.cs3 S21.out 0 rfl
                      have f0 := hh.1; have f1 := hh.2.1; have f2 := hh.2.2; clear hh
                      have hh := Bag.cs3 S21.out 1 rfl
                      have f3 := hh.1; have f4 := hh.2.1; have f5 := hh.2.2; clear hh
                      have f6 := Bag.cs1 S21.out 2 rfl
                      have hh := Bag.cs3 S21.out 3 rfl
                      have f7 := hh.1; have f8 := hh.2.1; have f9 := hh.2.2; clear hh
                      have hh := Bag.cs3 S21.out 4 rfl
                      have f10 := hh.1; have f11 := hh.2.1; have f12 := hh.2.2; clear hh
                      have hh := Bag.fs3 S21.out 4 rfl
                      have z0 := hh.1; have z1 := hh.2.1; have z2 := hh.2.2; clear hh
                      go_upto_region 18 with fail
                      clear f0 f1 f2 f3 f4 f5 f6 f7 f8 f9 f10 f11 f12 z0 z1 z2
                      have S22 := Lib.hid (show Sl.Sep w _ [L4.boxR w.heap.size 26 #[.string nm3, .slice a k c, .int .i64 au3], L4.boxR (w.heap.size + 1) 28 #[.int .i64 1, .int .i64 pn, .string pt], L4.boxR (w.heap.size + 1 + 1) 41 #[.slice ra M rc], L4.boxR (w.heap.size + 1 + 1 + 1) 26 #[.string ⟨#[]⟩, .slice none 0 0, .int .i64 0], L4.boxR g1 26 #[.string nm3, .slice a5' (k + 1) c5', .int .i64 pn], Bag.bag (rowsI ys), Sv.ownV 43 4 a5' c5' (k + 1) ((cellsI (ys.take k) ++ ([.int .i64 1, .int .i64 pn, .string pt, .slice a1 M c1])) ++ cellsI []), Sv.ownV 107 2 a1 c1 M (cellsF rl)] from L5.put_box5 (S21.out) 4 rfl 2 (.int .i64 pn))
                      clear S21
                      have hh := Bag.cs3 S22.out 0 rfl
                      have f0 := hh.1; have f1 := hh.2.1; have f2 := hh.2.2; clear hh
                      have hh := Bag.cs3 S22.out 1 rfl
                      have f3 := hh.1; have f4 := hh.2.1; have f5 := hh.2.2; clear hh
                      have f6 := Bag.cs1 S22.out 2 rfl
                      have hh := Bag.cs3 S22.out 3 rfl
                      have f7 := hh.1; have f8 := hh.2.1; have f9 := hh.2.2; clear hh
                      have hh := Bag.cs3 S22.out 4 rfl
                      have f10 := hh.1; have f11 := hh.2.1; have f12 := hh.2.2; clear hh
                      have hh := Bag.fs3 S22.out 3 rfl
                      have z0 := hh.1; have z1 := hh.2.1; have z2 := hh.2.2; clear hh
                      go_wp2_with fail
                      clear f0 f1 f2 f3 f4 f5 f6 f7 f8 f9 f10 f11 f12 z0 z1 z2
                      have S23 := Lib.hid (show Sl.Sep w _ [L4.boxR w.heap.size 26 #[.string nm3, .slice a k c, .int .i64 au3], L4.boxR (w.heap.size + 1) 28 #[.int .i64 1, .int .i64 pn, .string pt], L4.boxR (w.heap.size + 1 + 1) 41 #[.slice ra M rc], L4.boxR (w.heap.size + 1 + 1 + 1) 26 #[.string nm3, .slice a5' (k + 1) c5', .int .i64 pn], L4.boxR g1 26 #[.string nm3, .slice a5' (k + 1) c5', .int .i64 pn], Bag.bag (rowsI ys), Sv.ownV 43 4 a5' c5' (k + 1) ((cellsI (ys.take k) ++ ([.int .i64 1, .int .i64 pn, .string pt, .slice a1 M c1])) ++ cellsI []), Sv.ownV 107 2 a1 c1 M (cellsF rl)] from L5.put_box5 (L5.put_box5 (L5.put_box5 (S22.out) 3 rfl 0 (.string nm3)) 3 rfl 1 (.slice a5' (k + 1) c5')) 3 rfl 2 (.int .i64 pn))
                      clear S22
                      have hh := Bag.cs3 S23.out 3 rfl
                      have f0 := hh.1; have f1 := hh.2.1; have f2 := hh.2.2; clear hh
                      refine bodyPost_ret (v := .tuple #[.agg #[.string nm3, .slice a5' (k + 1) c5', .int .i64 pn], .bool true]) (by simp [results, Try.results134, go_sem, *]) rfl ?_
                      clear f0 f1 f2
                      have HX9 := Lib.hid (show nextAuto au3 ⟨1, pn, pt⟩ = pn from by unfold nextAuto; dsimp only; rw [HBA.out]; rfl)
                      have hM := HM.out
                      subst hM
                      have S90 := Lib.hid (Bag.bag_of_one S23.out 7 (r := (LI.mk ⟨1, pn, pt⟩ a1 c1 rl).row) rfl)
                      have S91 := Lib.hid (Bag.bag_join S90.out 5 7 (by decide) rfl rfl)
                      have S92 := Lib.hid (Bag.bag_perm S91.out 5 rfl (rowsI_ins ys k ⟨⟨1, pn, pt⟩, a1, c1, rl⟩))
                      have hlz : (ys.take k ++ ⟨⟨1, pn, pt⟩, a1, c1, rl⟩ :: ys.drop k).length = k + 1 := by rw [List.length_append, List.length_cons, List.length_take, List.length_drop]; omega
                      have hcz : cellsI (ys.take k ++ ⟨⟨1, pn, pt⟩, a1, c1, rl⟩ :: ys.drop k) = (cellsI (ys.take k) ++ ([.int .i64 1, .int .i64 pn, .string pt, .slice a1 rl.length c1])) ++ cellsI [] := by rw [cellsI_append, cellsI_cons]; rw [List.drop_of_length_le (show ys.length ≤ k by omega)]; simp [cellsI]
                      have S93 := Lib.hid (Bag.bag_of_one S92.out 6 (r := rowI a5' c5' (ys.take k ++ ⟨⟨1, pn, pt⟩, a1, c1, rl⟩ :: ys.drop k)) (by unfold RowS.res rowI; dsimp only; rw [hlz, hcz]; rfl))
                      have S94 := Lib.hid (Bag.bag_join S93.out 6 5 (by decide) rfl rfl)
                      refine ⟨⟨nm3, a5', c5', ys.take k ++ ⟨⟨1, pn, pt⟩, a1, c1, rl⟩ :: ys.drop k, pn⟩, ?_, ?_, ?_, S94.out.old⟩
                      · rw [HE.out]; unfold LS.v LS.cells; dsimp only; rw [hlz]
                      · rw [HE.out, HX9.out, HPOS.out]; unfold LS.con; dsimp only; rw [conI_ins, HCE.out]; rfl
                      · have h := Bag.bag_from S94.out 6 rfl
                        unfold LS.rows; exact h
                  · have hk2 : (pk == 1) = false := by simpa using hk1
                    clear f0 f1 f2 f3 f4 f5 f6 f7 f8 f9 f10 f11 f12
                    have hh := Bag.cs3 S21.out 0 rfl
                    have f0 := hh.1; have f1 := hh.2.1; have f2 := hh.2.2; clear hh
                    have hh := Bag.cs3 S21.out 1 rfl
                    have f3 := hh.1; have f4 := hh.2.1; have f5 := hh.2.2; clear hh
                    have f6 := Bag.cs1 S21.out 2 rfl
                    have hh := Bag.cs3 S21.out 3 rfl
                    have f7 := hh.1; have f8 := hh.2.1; have f9 := hh.2.2; clear hh
                    have hh := Bag.cs3 S21.out 4 rfl
                    have f10 := hh.1; have f11 := hh.2.1; have f12 := hh.2.2; clear hh
                    have hh := Bag.fs3 S21.out 3 rfl
                    have z0 := hh.1; have z1 := hh.2.1; have z2 := hh.2.2; clear hh
                    go_wp2_with fail
                    clear f0 f1 f2 f3 f4 f5 f6 f7 f8 f9 f10 f11 f12 z0 z1 z2
                    have S22 := Lib.hid (show Sl.Sep w _ [L4.boxR w.heap.size 26 #[.string nm3, .slice a k c, .int .i64 au3], L4.boxR (w.heap.size + 1) 28 #[.int .i64 pk, .int .i64 pn, .string pt], L4.boxR (w.heap.size + 1 + 1) 41 #[.slice ra M rc], L4.boxR (w.heap.size + 1 + 1 + 1) 26 #[.string nm3, .slice a5' (k + 1) c5', .int .i64 au3], L4.boxR g1 26 #[.string nm3, .slice a5' (k + 1) c5', .int .i64 au3], Bag.bag (rowsI ys), Sv.ownV 43 4 a5' c5' (k + 1) ((cellsI (ys.take k) ++ ([.int .i64 pk, .int .i64 pn, .string pt, .slice a1 M c1])) ++ cellsI []), Sv.ownV 107 2 a1 c1 M (cellsF rl)] from L5.put_box5 (L5.put_box5 (L5.put_box5 (S21.out) 3 rfl 0 (.string nm3)) 3 rfl 1 (.slice a5' (k + 1) c5')) 3 rfl 2 (.int .i64 au3))
                    clear S21
                    have hh := Bag.cs3 S22.out 3 rfl
                    have f0 := hh.1; have f1 := hh.2.1; have f2 := hh.2.2; clear hh
                    refine bodyPost_ret (v := .tuple #[.agg #[.string nm3, .slice a5' (k + 1) c5', .int .i64 au3], .bool true]) (by simp [results, Try.results134, go_sem, *]) rfl ?_
                    clear f0 f1 f2
                    have HX9 := Lib.hid (show nextAuto au3 ⟨pk, pn, pt⟩ = au3 from by unfold nextAuto; dsimp only; rw [hk2]; rfl)
                    have hM := HM.out
                    subst hM
                    have S90 := Lib.hid (Bag.bag_of_one S22.out 7 (r := (LI.mk ⟨pk, pn, pt⟩ a1 c1 rl).row) rfl)
                    have S91 := Lib.hid (Bag.bag_join S90.out 5 7 (by decide) rfl rfl)
                    have S92 := Lib.hid (Bag.bag_perm S91.out 5 rfl (rowsI_ins ys k ⟨⟨pk, pn, pt⟩, a1, c1, rl⟩))
                    have hlz : (ys.take k ++ ⟨⟨pk, pn, pt⟩, a1, c1, rl⟩ :: ys.drop k).length = k + 1 := by rw [List.length_append, List.length_cons, List.length_take, List.length_drop]; omega
                    have hcz : cellsI (ys.take k ++ ⟨⟨pk, pn, pt⟩, a1, c1, rl⟩ :: ys.drop k) = (cellsI (ys.take k) ++ ([.int .i64 pk, .int .i64 pn, .string pt, .slice a1 rl.length c1])) ++ cellsI [] := by rw [cellsI_append, cellsI_cons]; rw [List.drop_of_length_le (show ys.length ≤ k by omega)]; simp [cellsI]
                    have S93 := Lib.hid (Bag.bag_of_one S92.out 6 (r := rowI a5' c5' (ys.take k ++ ⟨⟨pk, pn, pt⟩, a1, c1, rl⟩ :: ys.drop k)) (by unfold RowS.res rowI; dsimp only; rw [hlz, hcz]; rfl))
                    have S94 := Lib.hid (Bag.bag_join S93.out 6 5 (by decide) rfl rfl)
                    refine ⟨⟨nm3, a5', c5', ys.take k ++ ⟨⟨pk, pn, pt⟩, a1, c1, rl⟩ :: ys.drop k, au3⟩, ?_, ?_, ?_, S94.out.old⟩
                    · rw [HE.out]; unfold LS.v LS.cells; dsimp only; rw [hlz]
                    · rw [HE.out, HX9.out, HPOS.out]; unfold LS.con; dsimp only; rw [conI_ins, HCE.out]; rfl
                    · have h := Bag.bag_from S94.out 6 rfl
                      unfold LS.rows; exact h
end Go.Proofs.Ytmnedjhfibmcnaa.L6

/-
  The contract of chapter 6's AddItem of the specification. Conditions: keys' texts of at most 2^40 bytes, at most 2^20 fields and items. (Written by my program gen_l6f.py.)
-/
namespace Go.Proofs.Ytmnedjhfibmcnaa.L6
set_option maxRecDepth 100000
open L4 (K isK cmpK R inR encU)
open L5 (F isR isN cellsF encR eqR Small)
open Go.ChangeShapes Go.WideShapes Go.ChangeAt Go.RowKit Mem Sl Ex L2 Sv Bag
set_option linter.unusedVariables false
set_option linter.unusedSimpArgs false

set_option maxHeartbeats 8000000 in
theorem specAddItem_any (y : LS) (k0 : K) (ra : Option Addr) (rc : Nat) (rl : List F) (hf : FitS y.con) (hkt : k0.text.size ≤ 1099511627776) (hrl : rl.length ≤ 1048576) (hrs : Small rl) (w : World) (hr : RowsRd w w.heap.size y.rows) (hrr : Reads w w.heap.size ra (cellsF rl)) :
    Calls Try.prog 140 #[y.v, k0.v, .agg #[.slice ra rl.length rc]] w (GaveSB w (addI y.con k0 rl).1 (addI y.con k0 rl).2) := by
  obtain ⟨pk, pn, pt⟩ := k0
  unfold L4.K.v
  try dsimp only at hkt ⊢
  have HCP := Lib.hid (fun w' (h : Below w.heap.size w w') => l6Copy_any y hf w' ((hr.below h).more h.size))
  have HFD := Lib.hid (fun w' (h : Below w.heap.size w w') => specFindItem_any y ⟨pk, pn, pt⟩ hf w' ((hr.below h).more h.size))
  have HPT := Lib.hid (fun w' (h : Below w.heap.size w w') => specPutItem_any y ⟨pk, pn, pt⟩ ra rc rl hf hkt hrl hrs w' ((hr.below h).more h.size) ((hrr.below h).more h.size))
  have HR0 := Lib.hid (fndI_range y.con.items ⟨pk, pn, pt⟩)
  obtain ⟨name, a, c, xs, auto⟩ := y
  have HR := Lib.hid (fun w' (h : Below w.heap.size w w') => LS.outer (hr.below h))
  have HX := Lib.hid (fun w' (h : Below w.heap.size w w') => (LS.inner (hr.below h)).more h.size)
  have HF := Lib.hid hf.items
  have HNM := Lib.hid hf.name
  have hl := hf.len
  simp only [LS.con, conI_length] at hl
  dsimp only [LS.con] at HR HX HF HNM
  try unfold LS.v LS.cells LS.con
  try dsimp only
  obtain ⟨N, hN⟩ : ∃ n, n = xs.length := ⟨_, rfl⟩
  rw [← hN] at hl ⊢
  have hl' : (N : Int) ≤ 1048576 := by omega
  have HN := Lib.hid hN
  clear hN hr hf
  dsimp only [LS.v, LS.cells, LS.con] at HCP HFD HPT HR0
  rw [← HN.out] at HCP HFD HPT
  obtain ⟨M, hM⟩ : ∃ M, M = rl.length := ⟨_, rfl⟩
  rw [← hM] at HPT ⊢
  clear hM hrr hrl
  obtain ⟨res, hres⟩ : ∃ r, addI ⟨name, conI xs, auto⟩ ⟨pk, pn, pt⟩ rl = r := ⟨_, rfl⟩
  rw [hres]
  obtain ⟨pu, hpu⟩ : ∃ r, putI ⟨name, conI xs, auto⟩ ⟨pk, pn, pt⟩ rl = r := ⟨_, rfl⟩
  rw [hpu] at HPT
  obtain ⟨fi, hfi⟩ : ∃ i, fndI (conI xs) ⟨pk, pn, pt⟩ = i := ⟨_, rfl⟩
  rw [hfi] at HFD HR0
  have HP := Lib.hid (show res = if 0 ≤ fi then (⟨name, conI xs, auto⟩, false) else pu from by rw [← hres, ← hpu, ← hfi]; rfl)
  clear hres hpu hfi
  have S1 := Lib.hid (show Sl.Sep w ((((w.alloc (.cells #[.string name, .slice a N c, .int .i64 auto] 26)).alloc (.cells #[.int .i64 pk, .int .i64 pn, .string pt] 28)).alloc (.cells #[.slice ra M rc] 41)).alloc (.cells #[.string ⟨#[]⟩, .slice none 0 0, .int .i64 0] 26)) [L4.boxR w.heap.size 26 #[.string name, .slice a N c, .int .i64 auto], L4.boxR (w.heap.size + 1) 28 #[.int .i64 pk, .int .i64 pn, .string pt], L4.boxR (w.heap.size + 1 + 1) 41 #[.slice ra M rc], L4.boxR (w.heap.size + 1 + 1 + 1) 26 #[.string ⟨#[]⟩, .slice none 0 0, .int .i64 0]] from L4.push_box (L4.push_box (L4.push_box (L4.push_box (Sl.Sep.start w) 26 #[.string name, .slice a N c, .int .i64 auto] (w.heap.size) (by simp)) 28 #[.int .i64 pk, .int .i64 pn, .string pt] (w.heap.size + 1) (by simp)) 41 #[.slice ra M rc] (w.heap.size + 1 + 1) (by simp)) 26 #[.string ⟨#[]⟩, .slice none 0 0, .int .i64 0] (w.heap.size + 1 + 1 + 1) (by simp))
  obtain ⟨wa, hwa⟩ : ∃ u, u = ((((w.alloc (.cells #[.string name, .slice a N c, .int .i64 auto] 26)).alloc (.cells #[.int .i64 pk, .int .i64 pn, .string pt] 28)).alloc (.cells #[.slice ra M rc] 41)).alloc (.cells #[.string ⟨#[]⟩, .slice none 0 0, .int .i64 0] 26)) := ⟨_, rfl⟩
  rw [← hwa] at S1
  go_enter Try.func140, Try.ntmps140
  go_upto_region 1 with fail
  rw [← hwa]
  clear hwa
  have hh := Bag.cs3 S1.out 0 rfl
  have f0 := hh.1; have f1 := hh.2.1; have f2 := hh.2.2; clear hh
  have hh := Bag.cs3 S1.out 1 rfl
  have f3 := hh.1; have f4 := hh.2.1; have f5 := hh.2.2; clear hh
  have f6 := Bag.cs1 S1.out 2 rfl
  have hh := Bag.cs3 S1.out 3 rfl
  have f7 := hh.1; have f8 := hh.2.1; have f9 := hh.2.2; clear hh
  go_wp2_with fail
  go_at_call 152
  refine (HFD.out _ S1.out.old).mono ?_
  rintro e w1 ⟨rfl, hb⟩
  clear f0 f1 f2 f3 f4 f5 f6 f7 f8 f9
  have S2 := Lib.hid (S1.out.keep hb)
  clear S1
  clear hb
  have hh := Bag.cs3 S2.out 0 rfl
  have f0 := hh.1; have f1 := hh.2.1; have f2 := hh.2.2; clear hh
  have hh := Bag.cs3 S2.out 1 rfl
  have f3 := hh.1; have f4 := hh.2.1; have f5 := hh.2.2; clear hh
  have f6 := Bag.cs1 S2.out 2 rfl
  have hh := Bag.cs3 S2.out 3 rfl
  have f7 := hh.1; have f8 := hh.2.1; have f9 := hh.2.2; clear hh
  by_cases h0 : 0 ≤ fi
  · have HE := Lib.hid (show res = (⟨name, conI xs, auto⟩, false) from by rw [HP.out, if_pos h0])
    go_wp2_with fail
    go_at_call 139
    refine (HCP.out _ S2.out.old).mono ?_
    rintro e w2 ⟨⟨nm3, a3, c3, ys, au3⟩, rfl, hcon, ho, hb⟩
    clear f0 f1 f2 f3 f4 f5 f6 f7 f8 f9
    have S3 := Lib.hid (show Sl.Sep w _ [L4.boxR w.heap.size 26 #[.string name, .slice a N c, .int .i64 auto], L4.boxR (w.heap.size + 1) 28 #[.int .i64 pk, .int .i64 pn, .string pt], L4.boxR (w.heap.size + 1 + 1) 41 #[.slice ra M rc], L4.boxR (w.heap.size + 1 + 1 + 1) 26 #[.string ⟨#[]⟩, .slice none 0 0, .int .i64 0], Bag.bag ((LS.mk nm3 a3 c3 ys au3).rows)] from Bag.push_bag S2.out hb ho)
    clear S2
    clear hb ho
    have HCON := Lib.hid hcon
    clear hcon
    simp only [LS.v, LS.cells]
    have hh := Bag.cs3 S3.out 3 rfl
    have f0 := hh.1; have f1 := hh.2.1; have f2 := hh.2.2; clear hh
    have hh := Bag.fs3 S3.out 3 rfl
    have z0 := hh.1; have z1 := hh.2.1; have z2 := hh.2.2; clear hh
    go_wp2_with fail
    clear f0 f1 f2 z0 z1 z2
    have S4 := Lib.hid (show Sl.Sep w _ [L4.boxR w.heap.size 26 #[.string name, .slice a N c, .int .i64 auto], L4.boxR (w.heap.size + 1) 28 #[.int .i64 pk, .int .i64 pn, .string pt], L4.boxR (w.heap.size + 1 + 1) 41 #[.slice ra M rc], L4.boxR (w.heap.size + 1 + 1 + 1) 26 #[.string nm3, .slice a3 ys.length c3, .int .i64 au3], Bag.bag ((LS.mk nm3 a3 c3 ys au3).rows)] from L5.put_box5 (L5.put_box5 (L5.put_box5 (S3.out) 3 rfl 0 (.string nm3)) 3 rfl 1 (.slice a3 ys.length c3)) 3 rfl 2 (.int .i64 au3))
    clear S3
    have hh := Bag.cs3 S4.out 3 rfl
    have f0 := hh.1; have f1 := hh.2.1; have f2 := hh.2.2; clear hh
    refine bodyPost_ret (v := .tuple #[.agg #[.string nm3, .slice a3 ys.length c3, .int .i64 au3], .bool false]) (by simp [results, Try.results140, go_sem, *]) rfl ?_
    exact ⟨⟨nm3, a3, c3, ys, au3⟩, by rw [HE.out]; rfl, by rw [HE.out]; exact HCON.out, Bag.bag_from S4.out 4 rfl, S4.out.old⟩
  · have HE := Lib.hid (show res = pu from by rw [HP.out, if_neg h0])
    have h1 : fi < 0 := by omega
    go_wp2_with fail
    go_at_call 134
    refine (HPT.out _ S2.out.old).mono ?_
    rintro e w2 ⟨⟨nm3, a3, c3, ys, au3⟩, rfl, hcon, ho, hb⟩
    clear f0 f1 f2 f3 f4 f5 f6 f7 f8 f9
    have S3 := Lib.hid (show Sl.Sep w _ [L4.boxR w.heap.size 26 #[.string name, .slice a N c, .int .i64 auto], L4.boxR (w.heap.size + 1) 28 #[.int .i64 pk, .int .i64 pn, .string pt], L4.boxR (w.heap.size + 1 + 1) 41 #[.slice ra M rc], L4.boxR (w.heap.size + 1 + 1 + 1) 26 #[.string ⟨#[]⟩, .slice none 0 0, .int .i64 0], Bag.bag ((LS.mk nm3 a3 c3 ys au3).rows)] from Bag.push_bag S2.out hb ho)
    clear S2
    clear hb ho
    have HCON := Lib.hid hcon
    clear hcon
    simp only [LS.v, LS.cells]
    obtain ⟨pb, hpb⟩ : ∃ b, pu.2 = b := ⟨_, rfl⟩
    rw [hpb]
    have HPB := Lib.hid hpb
    clear hpb
    have hh := Bag.cs3 S3.out 3 rfl
    have f0 := hh.1; have f1 := hh.2.1; have f2 := hh.2.2; clear hh
    have hh := Bag.fs3 S3.out 3 rfl
    have z0 := hh.1; have z1 := hh.2.1; have z2 := hh.2.2; clear hh
    go_wp2_with fail
    clear f0 f1 f2 z0 z1 z2
    have S4 := Lib.hid (show Sl.Sep w _ [L4.boxR w.heap.size 26 #[.string name, .slice a N c, .int .i64 auto], L4.boxR (w.heap.size + 1) 28 #[.int .i64 pk, .int .i64 pn, .string pt], L4.boxR (w.heap.size + 1 + 1) 41 #[.slice ra M rc], L4.boxR (w.heap.size + 1 + 1 + 1) 26 #[.string nm3, .slice a3 ys.length c3, .int .i64 au3], Bag.bag ((LS.mk nm3 a3 c3 ys au3).rows)] from L5.put_box5 (L5.put_box5 (L5.put_box5 (S3.out) 3 rfl 0 (.string nm3)) 3 rfl 1 (.slice a3 ys.length c3)) 3 rfl 2 (.int .i64 au3))
    clear S3
    have hh := Bag.cs3 S4.out 3 rfl
    have f0 := hh.1; have f1 := hh.2.1; have f2 := hh.2.2; clear hh
    refine bodyPost_ret (v := .tuple #[.agg #[.string nm3, .slice a3 ys.length c3, .int .i64 au3], .bool pb]) (by simp [results, Try.results140, go_sem, *]) rfl ?_
    exact ⟨⟨nm3, a3, c3, ys, au3⟩, by rw [HE.out, HPB.out]; rfl, by rw [HE.out]; exact HCON.out, Bag.bag_from S4.out 4 rfl, S4.out.old⟩
end Go.Proofs.Ytmnedjhfibmcnaa.L6

/-
  The contract of chapter 6's AutoItem of the specification. Conditions: keys' texts of at most 2^40 bytes, at most 2^20 fields and items, an automatic key of 64 bits. (Written by my program gen_l6l.py.)
-/
namespace Go.Proofs.Ytmnedjhfibmcnaa.L6
set_option maxRecDepth 100000
open L4 (K isK cmpK R inR encU)
open L5 (F isR isN cellsF encR eqR Small)
open Go.ChangeShapes Go.WideShapes Go.ChangeAt Go.RowKit Mem Sl Ex L2 Sv Bag
set_option linter.unusedVariables false
set_option linter.unusedSimpArgs false

theorem putI_false {s : S6} {k : K} {l : List F} (h : (putI s k l).2 = false) : (putI s k l).1 = s := by
  unfold putI at h ⊢
  split at h
  · split at h
    · cases h
    · split at h
      · rename_i h1 _ h2 h3
        rw [if_pos h1, if_pos h3]
      · cases h
  · rename_i h1
    rw [if_neg h1]
theorem addI_false {s : S6} {k : K} {l : List F} (h : (addI s k l).2 = false) : (addI s k l).1 = s := by
  unfold addI at h ⊢
  split at h
  · rename_i h1
    rw [if_pos h1]
  · rename_i h1
    rw [if_neg h1]
    exact putI_false h
theorem auto_parts (s : S6) (l : List F) : (1000000 ≤ s.auto → autoS s l = s ∧ autoR s l = zK ∧ autoB s l = false) ∧
    (¬ 1000000 ≤ s.auto → (addI s (autoK s) l).2 = false → autoS s l = s ∧ autoR s l = zK ∧ autoB s l = false) ∧
    (¬ 1000000 ≤ s.auto → (addI s (autoK s) l).2 = true → autoS s l = (addI s (autoK s) l).1 ∧ autoR s l = autoK s ∧ autoB s l = true) := by
  refine ⟨fun h => ?_, fun h h2 => ?_, fun h h2 => ?_⟩ <;> unfold autoS autoR autoB <;> simp [h, *]

set_option maxHeartbeats 8000000 in
theorem specAutoItem_any (y : LS) (ra : Option Addr) (rc : Nat) (rl : List F) (hf : FitS y.con) (hau : -9223372036854775808 ≤ y.auto) (hrl : rl.length ≤ 1048576) (hrs : Small rl) (w : World) (hr : RowsRd w w.heap.size y.rows) (hrr : Reads w w.heap.size ra (cellsF rl)) :
    Calls Try.prog 113 #[y.v, .agg #[.slice ra rl.length rc]] w (GaveSKB w (autoS y.con rl) (autoR y.con rl) (autoB y.con rl)) := by
  have HCP := Lib.hid (fun w' (h : Below w.heap.size w w') => l6Copy_any y hf w' ((hr.below h).more h.size))
  have HAD := Lib.hid (fun w' (h : Below w.heap.size w w') => specAddItem_any y ⟨1, y.auto + 1, ⟨#[]⟩⟩ ra rc rl hf (by show (0 : Nat) ≤ _; omega) hrl hrs w' ((hr.below h).more h.size) ((hrr.below h).more h.size))
  obtain ⟨name, a, c, xs, auto⟩ := y
  have HR := Lib.hid (fun w' (h : Below w.heap.size w w') => LS.outer (hr.below h))
  have HX := Lib.hid (fun w' (h : Below w.heap.size w w') => (LS.inner (hr.below h)).more h.size)
  have HF := Lib.hid hf.items
  have HNM := Lib.hid hf.name
  have hl := hf.len
  simp only [LS.con, conI_length] at hl
  dsimp only [LS.con] at HR HX HF HNM
  try unfold LS.v LS.cells LS.con
  try dsimp only
  obtain ⟨N, hN⟩ : ∃ n, n = xs.length := ⟨_, rfl⟩
  rw [← hN] at hl ⊢
  have hl' : (N : Int) ≤ 1048576 := by omega
  have HN := Lib.hid hN
  clear hN hr hf
  dsimp only [LS.v, LS.cells, LS.con, L4.K.v] at HCP HAD hau ⊢
  rw [← HN.out] at HCP HAD
  obtain ⟨M, hM⟩ : ∃ M, M = rl.length := ⟨_, rfl⟩
  rw [← hM] at HAD ⊢
  clear hM hrr hrl
  have HP := Lib.hid (auto_parts ⟨name, conI xs, auto⟩ rl)
  dsimp only [autoK] at HP
  obtain ⟨ad, had⟩ : ∃ r, addI ⟨name, conI xs, auto⟩ ⟨1, auto + 1, ⟨#[]⟩⟩ rl = r := ⟨_, rfl⟩
  rw [had] at HAD HP
  have HF2 := Lib.hid (show ad.2 = false → ad.1 = ⟨name, conI xs, auto⟩ from by rw [← had]; exact addI_false)
  clear had
  obtain ⟨rs, has⟩ : ∃ r, autoS ⟨name, conI xs, auto⟩ rl = r := ⟨_, rfl⟩
  obtain ⟨rk, hak⟩ : ∃ r, autoR ⟨name, conI xs, auto⟩ rl = r := ⟨_, rfl⟩
  obtain ⟨rb, hab⟩ : ∃ r, autoB ⟨name, conI xs, auto⟩ rl = r := ⟨_, rfl⟩
  rw [has, hak, hab] at HP ⊢
  clear has hak hab
  have S1 := Lib.hid (show Sl.Sep w ((((w.alloc (.cells #[.string name, .slice a N c, .int .i64 auto] 26)).alloc (.cells #[.slice ra M rc] 41)).alloc (.cells #[.string ⟨#[]⟩, .slice none 0 0, .int .i64 0] 26)).alloc (.cells #[.int .i64 0, .int .i64 0, .string ⟨#[]⟩] 28)) [L4.boxR w.heap.size 26 #[.string name, .slice a N c, .int .i64 auto], L4.boxR (w.heap.size + 1) 41 #[.slice ra M rc], L4.boxR (w.heap.size + 1 + 1) 26 #[.string ⟨#[]⟩, .slice none 0 0, .int .i64 0], L4.boxR (w.heap.size + 1 + 1 + 1) 28 #[.int .i64 0, .int .i64 0, .string ⟨#[]⟩]] from L4.push_box (L4.push_box (L4.push_box (L4.push_box (Sl.Sep.start w) 26 #[.string name, .slice a N c, .int .i64 auto] (w.heap.size) (by simp)) 41 #[.slice ra M rc] (w.heap.size + 1) (by simp)) 26 #[.string ⟨#[]⟩, .slice none 0 0, .int .i64 0] (w.heap.size + 1 + 1) (by simp)) 28 #[.int .i64 0, .int .i64 0, .string ⟨#[]⟩] (w.heap.size + 1 + 1 + 1) (by simp))
  obtain ⟨wa, hwa⟩ : ∃ u, u = ((((w.alloc (.cells #[.string name, .slice a N c, .int .i64 auto] 26)).alloc (.cells #[.slice ra M rc] 41)).alloc (.cells #[.string ⟨#[]⟩, .slice none 0 0, .int .i64 0] 26)).alloc (.cells #[.int .i64 0, .int .i64 0, .string ⟨#[]⟩] 28)) := ⟨_, rfl⟩
  rw [← hwa] at S1
  go_enter Try.func113, Try.ntmps113
  go_upto_region 1 with fail
  rw [← hwa]
  clear hwa
  have hh := Bag.cs3 S1.out 0 rfl
  have f0 := hh.1; have f1 := hh.2.1; have f2 := hh.2.2; clear hh
  have f3 := Bag.cs1 S1.out 1 rfl
  have hh := Bag.cs3 S1.out 2 rfl
  have f4 := hh.1; have f5 := hh.2.1; have f6 := hh.2.2; clear hh
  have hh := Bag.cs3 S1.out 3 rfl
  have f7 := hh.1; have f8 := hh.2.1; have f9 := hh.2.2; clear hh
  by_cases h0 : 1000000 ≤ auto
  · have HE := Lib.hid (HP.out.1 h0)
    go_wp2_with fail
    go_at_call 139
    refine (HCP.out _ S1.out.old).mono ?_
    rintro e w1 ⟨⟨nm3, a3, c3, ys, au3⟩, rfl, hcon, ho, hb⟩
    clear f0 f1 f2 f3 f4 f5 f6 f7 f8 f9
    have S2 := Lib.hid (show Sl.Sep w _ [L4.boxR w.heap.size 26 #[.string name, .slice a N c, .int .i64 auto], L4.boxR (w.heap.size + 1) 41 #[.slice ra M rc], L4.boxR (w.heap.size + 1 + 1) 26 #[.string ⟨#[]⟩, .slice none 0 0, .int .i64 0], L4.boxR (w.heap.size + 1 + 1 + 1) 28 #[.int .i64 0, .int .i64 0, .string ⟨#[]⟩], Bag.bag ((LS.mk nm3 a3 c3 ys au3).rows)] from Bag.push_bag S1.out hb ho)
    clear S1
    clear hb ho
    have HCON := Lib.hid hcon
    clear hcon
    simp only [LS.v, LS.cells]
    have hh := Bag.cs3 S2.out 2 rfl
    have f0 := hh.1; have f1 := hh.2.1; have f2 := hh.2.2; clear hh
    have hh := Bag.cs3 S2.out 3 rfl
    have f3 := hh.1; have f4 := hh.2.1; have f5 := hh.2.2; clear hh
    have hh := Bag.fs3 S2.out 2 rfl
    have z0 := hh.1; have z1 := hh.2.1; have z2 := hh.2.2; clear hh
    have y0 := Bag.free_at S2.out 3 rfl 0
    have y1 := Bag.free_at S2.out 3 rfl 1
    have y2 := Bag.free_at S2.out 3 rfl 2
    go_wp2_with fail
    clear f0 f1 f2 f3 f4 f5 z0 z1 z2 y0 y1 y2
    have S3 := Lib.hid (show Sl.Sep w _ [L4.boxR w.heap.size 26 #[.string name, .slice a N c, .int .i64 auto], L4.boxR (w.heap.size + 1) 41 #[.slice ra M rc], L4.boxR (w.heap.size + 1 + 1) 26 #[.string nm3, .slice a3 ys.length c3, .int .i64 au3], L4.boxR (w.heap.size + 1 + 1 + 1) 28 #[.int .i64 0, .int .i64 0, .string ⟨#[]⟩], Bag.bag ((LS.mk nm3 a3 c3 ys au3).rows)] from L5.put_box5 (L5.put_box5 (L5.put_box5 (S2.out) 2 rfl 0 (.string nm3)) 2 rfl 1 (.slice a3 ys.length c3)) 2 rfl 2 (.int .i64 au3))
    clear S2
    have S4 := Lib.hid (show Sl.Sep w _ [L4.boxR w.heap.size 26 #[.string name, .slice a N c, .int .i64 auto], L4.boxR (w.heap.size + 1) 41 #[.slice ra M rc], L4.boxR (w.heap.size + 1 + 1) 26 #[.string nm3, .slice a3 ys.length c3, .int .i64 au3], L4.boxR (w.heap.size + 1 + 1 + 1) 28 #[.int .i64 0, .int .i64 0, .string ⟨#[]⟩], Bag.bag ((LS.mk nm3 a3 c3 ys au3).rows)] from L5.put_box5 (L5.put_box5 (L5.put_box5 (S3.out) 3 rfl 0 (.int .i64 0)) 3 rfl 1 (.int .i64 0)) 3 rfl 2 (.string ⟨#[]⟩))
    clear S3
    have hh := Bag.cs3 S4.out 2 rfl
    have f0 := hh.1; have f1 := hh.2.1; have f2 := hh.2.2; clear hh
    have hh := Bag.cs3 S4.out 3 rfl
    have f3 := hh.1; have f4 := hh.2.1; have f5 := hh.2.2; clear hh
    refine bodyPost_ret (v := .tuple #[.agg #[.string nm3, .slice a3 ys.length c3, .int .i64 au3], .agg #[.int .i64 0, .int .i64 0, .string ⟨#[]⟩], .bool false]) (by simp [results, Try.results113, go_sem, *]) rfl ?_
    exact ⟨⟨nm3, a3, c3, ys, au3⟩, by rw [HE.out.2.1, HE.out.2.2]; rfl, by rw [HE.out.1]; exact HCON.out, Bag.bag_from S4.out 4 rfl, S4.out.old⟩
  · have hlt : auto < 1000000 := by omega
    have hw1 : IntKind.i64.wrap (auto + 1) = auto + 1 := IntWalk.i64_in _ ⟨by omega, by omega⟩
    go_upto_region 4 with fail
    clear f0 f1 f2 f3 f4 f5 f6 f7 f8 f9
    have S2 := Lib.hid (show Sl.Sep w _ [L4.boxR w.heap.size 26 #[.string name, .slice a N c, .int .i64 auto], L4.boxR (w.heap.size + 1) 41 #[.slice ra M rc], L4.boxR (w.heap.size + 1 + 1) 26 #[.string ⟨#[]⟩, .slice none 0 0, .int .i64 0], L4.boxR (w.heap.size + 1 + 1 + 1) 28 #[.int .i64 0, .int .i64 0, .string ⟨#[]⟩], L4.boxR wa.heap.size 28 #[.int .i64 1, .int .i64 (auto + 1), .string ⟨#[]⟩]] from L4.push_box S1.out 28 #[.int .i64 1, .int .i64 (auto + 1), .string ⟨#[]⟩] wa.heap.size rfl)
    clear S1
    obtain ⟨g1, hg⟩ : ∃ g', g' = wa.heap.size := ⟨_, rfl⟩
    rw [← hg] at S2 ⊢
    clear hg
    generalize wa.alloc (.cells #[.int .i64 1, .int .i64 (auto + 1), .string ⟨#[]⟩] 28) = w1 at S2 ⊢
    have hh := Bag.cs3 S2.out 0 rfl
    have f0 := hh.1; have f1 := hh.2.1; have f2 := hh.2.2; clear hh
    have f3 := Bag.cs1 S2.out 1 rfl
    have hh := Bag.cs3 S2.out 2 rfl
    have f4 := hh.1; have f5 := hh.2.1; have f6 := hh.2.2; clear hh
    have hh := Bag.cs3 S2.out 3 rfl
    have f7 := hh.1; have f8 := hh.2.1; have f9 := hh.2.2; clear hh
    have hh := Bag.cs3 S2.out 4 rfl
    have f10 := hh.1; have f11 := hh.2.1; have f12 := hh.2.2; clear hh
    go_wp2_with fail
    go_at_call 140
    refine (HAD.out _ S2.out.old).mono ?_
    rintro e w2 ⟨⟨nm3, a3, c3, ys, au3⟩, rfl, hcon, ho, hb⟩
    clear f0 f1 f2 f3 f4 f5 f6 f7 f8 f9 f10 f11 f12
    have S3 := Lib.hid (show Sl.Sep w _ [L4.boxR w.heap.size 26 #[.string name, .slice a N c, .int .i64 auto], L4.boxR (w.heap.size + 1) 41 #[.slice ra M rc], L4.boxR (w.heap.size + 1 + 1) 26 #[.string ⟨#[]⟩, .slice none 0 0, .int .i64 0], L4.boxR (w.heap.size + 1 + 1 + 1) 28 #[.int .i64 0, .int .i64 0, .string ⟨#[]⟩], L4.boxR g1 28 #[.int .i64 1, .int .i64 (auto + 1), .string ⟨#[]⟩], Bag.bag ((LS.mk nm3 a3 c3 ys au3).rows)] from Bag.push_bag S2.out hb ho)
    clear S2
    clear hb ho
    have HC3 := Lib.hid hcon
    clear hcon
    simp only [LS.v, LS.cells]
    obtain ⟨pb, hpb⟩ : ∃ b, ad.2 = b := ⟨_, rfl⟩
    rw [hpb]
    have HPB := Lib.hid hpb
    clear hpb
    go_upto_region 5 with fail
    have S4 := Lib.hid (show Sl.Sep w _ [L4.boxR w.heap.size 26 #[.string name, .slice a N c, .int .i64 auto], L4.boxR (w.heap.size + 1) 41 #[.slice ra M rc], L4.boxR (w.heap.size + 1 + 1) 26 #[.string ⟨#[]⟩, .slice none 0 0, .int .i64 0], L4.boxR (w.heap.size + 1 + 1 + 1) 28 #[.int .i64 0, .int .i64 0, .string ⟨#[]⟩], L4.boxR g1 28 #[.int .i64 1, .int .i64 (auto + 1), .string ⟨#[]⟩], Bag.bag ((LS.mk nm3 a3 c3 ys au3).rows), L4.boxR w2.heap.size 26 #[.string nm3, .slice a3 ys.length c3, .int .i64 au3]] from L4.push_box S3.out 26 #[.string nm3, .slice a3 ys.length c3, .int .i64 au3] w2.heap.size rfl)
    clear S3
    obtain ⟨g2, hg⟩ : ∃ g', g' = w2.heap.size := ⟨_, rfl⟩
    rw [← hg] at S4 ⊢
    clear hg
    generalize w2.alloc (.cells #[.string nm3, .slice a3 ys.length c3, .int .i64 au3] 26) = w3 at S4 ⊢
    have hh := Bag.cs3 S4.out 0 rfl
    have f0 := hh.1; have f1 := hh.2.1; have f2 := hh.2.2; clear hh
    have f3 := Bag.cs1 S4.out 1 rfl
    have hh := Bag.cs3 S4.out 2 rfl
    have f4 := hh.1; have f5 := hh.2.1; have f6 := hh.2.2; clear hh
    have hh := Bag.cs3 S4.out 3 rfl
    have f7 := hh.1; have f8 := hh.2.1; have f9 := hh.2.2; clear hh
    have hh := Bag.cs3 S4.out 4 rfl
    have f10 := hh.1; have f11 := hh.2.1; have f12 := hh.2.2; clear hh
    have hh := Bag.cs3 S4.out 6 rfl
    have f13 := hh.1; have f14 := hh.2.1; have f15 := hh.2.2; clear hh
    cases pb with
    | false =>
      have HE := Lib.hid (HP.out.2.1 h0 HPB.out)
      clear HC3
      go_wp2_with fail
      go_at_call 139
      refine (HCP.out _ S4.out.old).mono ?_
      rintro e w4 ⟨⟨nm4, a4, c4, ys4, au4⟩, rfl, hcon, ho, hb⟩
      clear f0 f1 f2 f3 f4 f5 f6 f7 f8 f9 f10 f11 f12 f13 f14 f15
      have S5 := Lib.hid (show Sl.Sep w _ [L4.boxR w.heap.size 26 #[.string name, .slice a N c, .int .i64 auto], L4.boxR (w.heap.size + 1) 41 #[.slice ra M rc], L4.boxR (w.heap.size + 1 + 1) 26 #[.string ⟨#[]⟩, .slice none 0 0, .int .i64 0], L4.boxR (w.heap.size + 1 + 1 + 1) 28 #[.int .i64 0, .int .i64 0, .string ⟨#[]⟩], L4.boxR g1 28 #[.int .i64 1, .int .i64 (auto + 1), .string ⟨#[]⟩], Bag.bag ((LS.mk nm3 a3 c3 ys au3).rows), L4.boxR g2 26 #[.string nm3, .slice a3 ys.length c3, .int .i64 au3], Bag.bag ((LS.mk nm4 a4 c4 ys4 au4).rows)] from Bag.push_bag S4.out hb ho)
      clear S4
      clear hb ho
      have HCON := Lib.hid hcon
      clear hcon
      simp only [LS.v, LS.cells]
      have hh := Bag.cs3 S5.out 2 rfl
      have f0 := hh.1; have f1 := hh.2.1; have f2 := hh.2.2; clear hh
      have hh := Bag.cs3 S5.out 3 rfl
      have f3 := hh.1; have f4 := hh.2.1; have f5 := hh.2.2; clear hh
      have hh := Bag.fs3 S5.out 2 rfl
      have z0 := hh.1; have z1 := hh.2.1; have z2 := hh.2.2; clear hh
      have y0 := Bag.free_at S5.out 3 rfl 0
      have y1 := Bag.free_at S5.out 3 rfl 1
      have y2 := Bag.free_at S5.out 3 rfl 2
      go_wp2_with fail
      clear f0 f1 f2 f3 f4 f5 z0 z1 z2 y0 y1 y2
      have S6 := Lib.hid (show Sl.Sep w _ [L4.boxR w.heap.size 26 #[.string name, .slice a N c, .int .i64 auto], L4.boxR (w.heap.size + 1) 41 #[.slice ra M rc], L4.boxR (w.heap.size + 1 + 1) 26 #[.string nm4, .slice a4 ys4.length c4, .int .i64 au4], L4.boxR (w.heap.size + 1 + 1 + 1) 28 #[.int .i64 0, .int .i64 0, .string ⟨#[]⟩], L4.boxR g1 28 #[.int .i64 1, .int .i64 (auto + 1), .string ⟨#[]⟩], Bag.bag ((LS.mk nm3 a3 c3 ys au3).rows), L4.boxR g2 26 #[.string nm3, .slice a3 ys.length c3, .int .i64 au3], Bag.bag ((LS.mk nm4 a4 c4 ys4 au4).rows)] from L5.put_box5 (L5.put_box5 (L5.put_box5 (S5.out) 2 rfl 0 (.string nm4)) 2 rfl 1 (.slice a4 ys4.length c4)) 2 rfl 2 (.int .i64 au4))
      clear S5
      have S7 := Lib.hid (show Sl.Sep w _ [L4.boxR w.heap.size 26 #[.string name, .slice a N c, .int .i64 auto], L4.boxR (w.heap.size + 1) 41 #[.slice ra M rc], L4.boxR (w.heap.size + 1 + 1) 26 #[.string nm4, .slice a4 ys4.length c4, .int .i64 au4], L4.boxR (w.heap.size + 1 + 1 + 1) 28 #[.int .i64 0, .int .i64 0, .string ⟨#[]⟩], L4.boxR g1 28 #[.int .i64 1, .int .i64 (auto + 1), .string ⟨#[]⟩], Bag.bag ((LS.mk nm3 a3 c3 ys au3).rows), L4.boxR g2 26 #[.string nm3, .slice a3 ys.length c3, .int .i64 au3], Bag.bag ((LS.mk nm4 a4 c4 ys4 au4).rows)] from L5.put_box5 (L5.put_box5 (L5.put_box5 (S6.out) 3 rfl 0 (.int .i64 0)) 3 rfl 1 (.int .i64 0)) 3 rfl 2 (.string ⟨#[]⟩))
      clear S6
      have hh := Bag.cs3 S7.out 2 rfl
      have f0 := hh.1; have f1 := hh.2.1; have f2 := hh.2.2; clear hh
      have hh := Bag.cs3 S7.out 3 rfl
      have f3 := hh.1; have f4 := hh.2.1; have f5 := hh.2.2; clear hh
      refine bodyPost_ret (v := .tuple #[.agg #[.string nm4, .slice a4 ys4.length c4, .int .i64 au4], .agg #[.int .i64 0, .int .i64 0, .string ⟨#[]⟩], .bool false]) (by simp [results, Try.results113, go_sem, *]) rfl ?_
      exact ⟨⟨nm4, a4, c4, ys4, au4⟩, by rw [HE.out.2.1, HE.out.2.2]; rfl, by rw [HE.out.1]; exact HCON.out, Bag.bag_from S7.out 7 rfl, S7.out.old⟩
    | true =>
      have HE := Lib.hid (HP.out.2.2 h0 HPB.out)
      have HCON := HC3
      go_upto_region 7 with fail
      clear f0 f1 f2 f3 f4 f5 f6 f7 f8 f9 f10 f11 f12 f13 f14 f15
      refine wp_region_held_drew (S := (fun w' => (World.cell? w' ⟨g1, 0, none⟩ = some (.int .i64 1) ∧ World.cell? w' ⟨g1, 1, none⟩ = some (.int .i64 (auto + 1)) ∧ World.cell? w' ⟨g1, 2, none⟩ = some (.string ⟨#[]⟩)) ∧ (World.cell? w' ⟨g2, 0, none⟩ = some (.string nm3) ∧ World.cell? w' ⟨g2, 1, none⟩ = some (.slice a3 ys.length c3) ∧ World.cell? w' ⟨g2, 2, none⟩ = some (.int .i64 au3)))) (by kernel_rfl) ⟨Bag.cs3 (Bag.drew1 S4.out) 4 rfl, Bag.cs3 (Bag.drew1 S4.out) 6 rfl⟩ (fun hS => ?_)
      have S5 := Lib.hid (show Sl.Sep w _ [L4.boxR w.heap.size 26 #[.string name, .slice a N c, .int .i64 auto], L4.boxR (w.heap.size + 1) 41 #[.slice ra M rc], L4.boxR (w.heap.size + 1 + 1) 26 #[.string ⟨#[]⟩, .slice none 0 0, .int .i64 0], L4.boxR (w.heap.size + 1 + 1 + 1) 28 #[.int .i64 0, .int .i64 0, .string ⟨#[]⟩], L4.boxR g1 28 #[.int .i64 1, .int .i64 (auto + 1), .string ⟨#[]⟩], Bag.bag ((LS.mk nm3 a3 c3 ys au3).rows), L4.boxR g2 26 #[.string nm3, .slice a3 ys.length c3, .int .i64 au3]] from Bag.drew1 S4.out)
      clear S4
      generalize World.drew _ = w4 at hS S5 ⊢
      refine tk 0 rfl ?_
      try simp only [zp0, zp1, zp2, zp3, zp4]
      refine tk 1 rfl ?_
      try simp only [zp0, zp1, zp2, zp3, zp4]
      refine Reg.one_op (i := 2) rfl (by kernel_rfl) (fun K hK => ?_)
      have hh := Bag.cs3 S5.out 2 rfl
      have f0 := hh.1; have f1 := hh.2.1; have f2 := hh.2.2; clear hh
      have hh := Bag.fs3 S5.out 2 rfl
      have z0 := hh.1; have z1 := hh.2.1; have z2 := hh.2.2; clear hh
      go_simp
      clear f0 f1 f2 z0 z1 z2
      have S6 := Lib.hid (show Sl.Sep w _ [L4.boxR w.heap.size 26 #[.string name, .slice a N c, .int .i64 auto], L4.boxR (w.heap.size + 1) 41 #[.slice ra M rc], L4.boxR (w.heap.size + 1 + 1) 26 #[.string nm3, .slice a3 ys.length c3, .int .i64 au3], L4.boxR (w.heap.size + 1 + 1 + 1) 28 #[.int .i64 0, .int .i64 0, .string ⟨#[]⟩], L4.boxR g1 28 #[.int .i64 1, .int .i64 (auto + 1), .string ⟨#[]⟩], Bag.bag ((LS.mk nm3 a3 c3 ys au3).rows), L4.boxR g2 26 #[.string nm3, .slice a3 ys.length c3, .int .i64 au3]] from L5.put_box5 (L5.put_box5 (L5.put_box5 (S5.out) 2 rfl 0 (.string nm3)) 2 rfl 1 (.slice a3 ys.length c3)) 2 rfl 2 (.int .i64 au3))
      clear S5
      refine hK.out _ _ ⟨Bag.cs3 S6.out 4 rfl, Bag.cs3 S6.out 6 rfl⟩ (fun hS => ?_)
      clear hK K
      try simp only [zp0, zp1, zp2, zp3, zp4]
      refine Reg.one_op (i := 3) rfl (by kernel_rfl) (fun K hK => ?_)
      have hh := Bag.cs3 S6.out 3 rfl
      have f0 := hh.1; have f1 := hh.2.1; have f2 := hh.2.2; clear hh
      have hh := Bag.fs3 S6.out 3 rfl
      have z0 := hh.1; have z1 := hh.2.1; have z2 := hh.2.2; clear hh
      go_simp
      clear f0 f1 f2 z0 z1 z2
      have S7 := Lib.hid (show Sl.Sep w _ [L4.boxR w.heap.size 26 #[.string name, .slice a N c, .int .i64 auto], L4.boxR (w.heap.size + 1) 41 #[.slice ra M rc], L4.boxR (w.heap.size + 1 + 1) 26 #[.string nm3, .slice a3 ys.length c3, .int .i64 au3], L4.boxR (w.heap.size + 1 + 1 + 1) 28 #[.int .i64 1, .int .i64 (auto + 1), .string ⟨#[]⟩], L4.boxR g1 28 #[.int .i64 1, .int .i64 (auto + 1), .string ⟨#[]⟩], Bag.bag ((LS.mk nm3 a3 c3 ys au3).rows), L4.boxR g2 26 #[.string nm3, .slice a3 ys.length c3, .int .i64 au3]] from L5.put_box5 (L5.put_box5 (L5.put_box5 (S6.out) 3 rfl 0 (.int .i64 1)) 3 rfl 1 (.int .i64 (auto + 1))) 3 rfl 2 (.string ⟨#[]⟩))
      clear S6
      refine hK.out _ _ ⟨Bag.cs3 S7.out 4 rfl, Bag.cs3 S7.out 6 rfl⟩ (fun hS => ?_)
      clear hK K
      try simp only [zp0, zp1, zp2, zp3, zp4]
      refine tk 4 rfl ?_
      try simp only [zp0, zp1, zp2, zp3, zp4]
      refine wpAnyH_done (by kernel_rfl) ?_ _
      have hh := Bag.cs3 S7.out 0 rfl
      have f0 := hh.1; have f1 := hh.2.1; have f2 := hh.2.2; clear hh
      have f3 := Bag.cs1 S7.out 1 rfl
      have hh := Bag.cs3 S7.out 2 rfl
      have f4 := hh.1; have f5 := hh.2.1; have f6 := hh.2.2; clear hh
      have hh := Bag.cs3 S7.out 3 rfl
      have f7 := hh.1; have f8 := hh.2.1; have f9 := hh.2.2; clear hh
      have hh := Bag.cs3 S7.out 4 rfl
      have f10 := hh.1; have f11 := hh.2.1; have f12 := hh.2.2; clear hh
      have hh := Bag.cs3 S7.out 6 rfl
      have f13 := hh.1; have f14 := hh.2.1; have f15 := hh.2.2; clear hh
      go_wp2_with fail
      refine bodyPost_ret (v := .tuple #[.agg #[.string nm3, .slice a3 ys.length c3, .int .i64 au3], .agg #[.int .i64 1, .int .i64 (auto + 1), .string ⟨#[]⟩], .bool true]) (by simp [results, Try.results113, go_sem, *]) rfl ?_
      exact ⟨⟨nm3, a3, c3, ys, au3⟩, by rw [HE.out.2.1, HE.out.2.2]; rfl, by rw [HE.out.1]; exact HCON.out, Bag.bag_from S7.out 5 rfl, S7.out.old⟩
end Go.Proofs.Ytmnedjhfibmcnaa.L6

/-
  Chapter 6: what an encoding holds at most; sizes and choices item by item. No condition.
-/
namespace Go.Proofs.Ytmnedjhfibmcnaa.L6
set_option maxRecDepth 100000
open L4 (K isK cmpK R inR encU)
open L5 (F isR isN cellsF encR eqR Small)
open Go.ChangeShapes Go.WideShapes Go.ChangeAt Go.RowKit Mem Sl Ex L2 Sv Bag
set_option linter.unusedVariables false
set_option linter.unusedSimpArgs false

theorem encU_small (k : K) : (encU k).length ≤ 50 := by
  unfold encU
  split
  · rename_i h
    have h2 := h
    unfold isK at h2
    simp only [Bool.and_eq_true] at h2
    have h3 : k.t.length ≤ 12 := by
      have h4 := h2.1.2
      unfold L4.isT at h4
      simp only [Bool.and_eq_true, decide_eq_true_eq] at h4
      omega
    simp only [List.length_cons, List.length_append]
    have h5 : (L4.num6 k).length ≤ 6 := by unfold L4.num6; split <;> simp
    omega
  · simp
theorem encR_small (l : List F) : (encR l).length ≤ 1000 := by
  unfold encR
  split
  · rename_i h
    have h1 := L5.encB_len l (L5.isR_names h)
    have h2 := (L5.isR_iff.1 h).2
    have h3 := L2.enc_len (l.length : Int)
    rw [List.length_append]
    omega
  · simp
theorem szI_take {xs : List It} {k : Nat} {x : It} (h : xs[k]? = some x) : szI (xs.take (k + 1)) = szI (xs.take k) + ((encU x.k).length + (encR x.l).length) := by
  obtain ⟨hk, rfl⟩ := List.getElem?_eq_some_iff.1 h
  unfold szI
  rw [List.take_succ_eq_append_getElem hk, List.map_append, List.sum_append]
  simp
theorem conI_snoc (ys : List LI) (x : LI) : conI (ys ++ [x]) = conI ys ++ [x.con] := List.map_append
end Go.Proofs.Ytmnedjhfibmcnaa.L6

/-
  The mathematics of chapter 6's two promises: an item that was put is found in its place, automatic keys are new, what is removed are the items of the range. No condition.
-/
namespace Go.Proofs.Ytmnedjhfibmcnaa.L6
set_option maxRecDepth 100000
open L4 (K isK cmpK R inR encU)
open L5 (F isR isN cellsF encR eqR Small)
set_option linter.unusedVariables false

theorem fndI_lt {xs : List It} {k : K} : fndI xs k < 0 ↔ fndO xs k = none := by
  unfold fndI
  split
  · rename_i i h
    constructor
    · intro h1; omega
    · intro h1; rw [h] at h1; cases h1
  · rename_i h
    exact ⟨fun _ => h, fun _ => by omega⟩
theorem fndO_eqK {xs : List It} {k : K} : fndO xs k = none ↔ ∀ x ∈ xs, eqK x.k k = false := by
  unfold fndO
  rw [List.findIdx?_eq_none_iff]
theorem del_off {s : S6} {r : R} (h : isS s = false) : delN s r = 0 ∧ delS s r = s := by
  unfold delN delS
  rw [h]
  exact ⟨rfl, rfl⟩
theorem part_len (xs : List It) (r : R) : (outI xs r).length + (inI xs r).length = xs.length := by
  unfold outI inI
  induction xs with
  | nil => rfl
  | cons x xs ih =>
    simp only [List.filter_cons]
    cases inR x.k r <;> simp <;> omega
theorem part_sz (xs : List It) (r : R) : szI (outI xs r) + szI (inI xs r) = szI xs := by
  unfold outI inI szI
  induction xs with
  | nil => rfl
  | cons x xs ih =>
    simp only [List.filter_cons, List.map_cons, List.sum_cons]
    cases inR x.k r <;> simp <;> omega
theorem in_out (xs : List It) (r : R) : inI (outI xs r) r = [] := by
  unfold outI inI
  rw [List.filter_filter, List.filter_eq_nil_iff]
  intro x _
  cases inR x.k r <;> simp
theorem del_on {s : S6} {r : R} (h : isS s = true) : delN s r = (inI s.items r).length ∧ (delS s r).items = outI s.items r := by
  have := part_len s.items r
  unfold delN delS
  rw [h]
  refine ⟨?_, rfl⟩
  show (s.items.length : Int) - _ = _
  omega
theorem in_at {xs : List It} {r : R} {x : It} (h : x ∈ inI xs r) : inR x.k r = true := (List.mem_filter.1 h).2
theorem out_none {xs : List It} {r : R} {k : K} (h : inR k r = true) : fndI (outI xs r) k < 0 := by
  rw [fndI_lt, fndO_eqK]
  intro x hx
  cases e : eqK x.k k with
  | false => rfl
  | true =>
    have := (List.mem_filter.1 hx).2
    rw [eqK_iff.1 e, h] at this
    cases this
theorem out_neg {xs : List It} {r : R} {k : K} (h : inR k r = true) : fndI (outI xs r) k = -1 := by
  have := out_none (xs := xs) h
  have := (fndI_range (outI xs r) k).1
  omega
theorem szI_bound {xs : List It} (h : xs.length ≤ 1048576) : szI xs ≤ 1048576 * 1100 := by
  have key : ∀ l : List It, szI l ≤ l.length * 1100 := by
    intro l
    induction l with
    | nil => exact Nat.le_refl _
    | cons x l ih =>
      have h1 := encU_small x.k
      have h2 := encR_small x.l
      unfold szI at ih ⊢
      rw [List.map_cons, List.sum_cons, List.length_cons]
      omega
  have := key xs
  omega
theorem eqS_self (s : S6) : eqS s s = true := eqS_iff.2 rfl
end Go.Proofs.Ytmnedjhfibmcnaa.L6

/-
  Words for runs of cells in a row of one's own, of no function: copy, clear, append of zeros that finds no room, make, a row shortened. No condition.
-/
namespace Go.Proofs.Ytmnedjhfibmcnaa.Run
set_option maxRecDepth 100000
open Go.ChangeShapes Go.WideShapes Go.ChangeAt Go.RowKit Mem Sl Sv Bag
set_option linter.unusedVariables false

def over (xs : List Value) (o : Nat) (vs : List Value) : List Value := xs.take o ++ (vs ++ xs.drop (o + vs.length))
theorem over_nil (xs : List Value) (o : Nat) : over xs o [] = xs := by simp [over]
theorem over_all (xs vs : List Value) (h : xs.length = vs.length) : over xs 0 vs = vs := by simp [over, ← h]
theorem over_at (A Z : List Value) (o : Nat) (vs : List Value) (ho : A.length = o) (hv : vs.length ≤ Z.length) : over (A ++ Z) o vs = A ++ (vs ++ Z.drop vs.length) := by
  subst ho
  simp [over, List.take_left', List.drop_append]
theorem over_cons (xs : List Value) (o : Nat) (v : Value) (vs : List Value) (h : o < xs.length) : over (xs.set o v) (o + 1) vs = over xs o (v :: vs) := by
  unfold over
  rw [List.drop_set_of_lt (by omega), List.take_add_one, List.take_set_of_le (Nat.le_refl o)]
  simp [h, Nat.add_comm]
  congr 1
  omega
section
variable {w w' : World} {B : Nat} {e : TypeId} {k c n g : Nat} {a : Option Addr} {xs : List Value}
theorem own_run (vs : List Value) : ∀ {w : World} {xs : List Value} (o : Nat), OwnV w B e k (some ⟨g, 0, none⟩) c n xs → o + vs.length ≤ xs.length → OwnV (w.setCells g o vs) B e k (some ⟨g, 0, none⟩) c n (over xs o vs) := by
  induction vs with
  | nil => intro w xs o h _; rw [over_nil]; exact h
  | cons v vs ih =>
    intro w xs o h hl
    simp only [List.length_cons] at hl
    have h1 := ih (o + 1) (h.set o (by omega) v) (by rw [List.length_set]; omega)
    rw [over_cons xs o v vs (by omega)] at h1
    exact h1
theorem turned_run (vs : List Value) : ∀ (w : World) (o : Nat), Turned [g] w (w.setCells g o vs) := by
  induction vs with
  | nil => intro w o; exact Turned.refl _ _
  | cons v vs ih => intro w o; exact (Turned.of_grown (grownBy_put w g o v)).trans (ih _ _)
theorem own_shorter (h : OwnV w B e k a c n xs) (m : Nat) (hm : m ≤ n) : OwnV w B e k a c m (xs.take (m * k)) := by
  have hmk : m * k ≤ n * k := Nat.mul_le_mul_right _ hm
  refine ⟨by rw [List.length_take, h.1]; omega, ?_⟩
  rcases h.2 with ⟨hv, hn⟩ | ⟨g, cap, cur, hv, hB, hg, h1, h2, h3, h4⟩
  · injection hv with e1 e2 e3
    subst e1
    subst e3
    exact .inl ⟨by rw [show m = 0 by omega], by omega⟩
  · injection hv with e1 e2 e3
    subst e1
    subst e3
    exact .inr ⟨g, c, cur, rfl, hB, hg, by omega, h2, h3, by rw [← h4, List.take_take, Nat.min_eq_left hmk]⟩
end
section
variable {W w w' : World} {rs : List Res} {e : TypeId} {k c n g : Nat} {a : Option Addr} {xs : List Value}
theorem put_run (h : Sep W w rs) (i : Nat) (hi : rs[i]? = some (ownV e k (some ⟨g, 0, none⟩) c n xs)) (o : Nat) (vs : List Value) (ho : o + vs.length ≤ xs.length) : Sep W (w.setCells g o vs) (rs.set i (ownV e k (some ⟨g, 0, none⟩) c n (over xs o vs))) :=
  h.put i hi (turned_run vs w o) (own_run vs o (own_at h i hi) ho) (fun b hb => hb)
theorem shorter (h : Sep W w rs) (i : Nat) (hi : rs[i]? = some (ownV e k a c n xs)) (m : Nat) (hm : m ≤ n) : Sep W w (rs.set i (ownV e k a c m (xs.take (m * k)))) :=
  turn h i hi (fun ho => own_shorter (w := w) (B := 0) ho m hm) (fun b hb => by
    cases a with
    | none => simp [ownV, Value.ownBlock] at hb
    | some ad => simpa [ownV, Value.ownBlock] using hb)
end
section
variable {P : Program}
theorem run_copy_src (w : World) (dT sT ty e : TypeId) (i : TypeInfo) (k g q dl dc sl sc : Nat) (A : Option Addr) (cs : List Value) (hu : P.underlying dT = some (.slice e)) (hi : P.info? e = some i) (hs : i.size = k) (hn : cs.length = Nat.min sl dl * k)
    (B : Nat) (hr : Reads w B A cs) (hc : ∀ j, j < cs.length → (w.cell? ⟨g, q + j, none⟩).isSome = true) (hf : ∀ j, j < cs.length → w.frozen? ⟨g, q + j, none⟩ = false) (h1 : ∀ v ∈ cs, v.oneCell' = true) :
    (Builtin.copy_ #[dT, sT] ty #[.slice (some ⟨g, q, none⟩) dl dc, .slice A sl sc]).run P w = .ok (goInt (Nat.min sl dl)) (w.setCells g q cs) := by
  have hst := run_storeCells_cells (P := P) g q cs 0 w (by simpa using hc) (by simpa using hf) h1
  cases A with
  | none =>
    have hcs : cs = [] := by
      rcases cs with _ | ⟨x, xs⟩
      · rfl
      · obtain ⟨ad, h, _⟩ := hr 0 (by simp)
        cases h
    subst hcs
    simp [Builtin.copy_, run_underlying hu, Builtin.lenOf, Builtin.firstCells, sizeOf, typeInfo, hi, storeCells, World.setCells]
  | some ad =>
    have hl := run_loadCells_list (P := P) w ad cs (fun j v hj => by
      obtain ⟨hjl, rfl⟩ := List.getElem?_eq_some_iff.1 hj
      obtain ⟨ad', h, _, h2⟩ := hr j hjl
      injection h with h
      subst h
      exact h2)
    simp [Builtin.copy_, run_underlying hu, Builtin.lenOf, Builtin.firstCells, sizeOf, typeInfo, hi, hs, ← hn, hl, hst]
theorem run_clear_rows (w : World) (t e ty : TypeId) (i : TypeInfo) (z : Value) (g o n c : Nat) (ht : P.underlying t = some (.slice e)) (hi : P.info? e = some i) (hz : i.zero = some z)
    (hc : ∀ j, j < n * z.cells.size → (w.cell? ⟨g, o + j, none⟩).isSome = true) (hf : ∀ j, j < n * z.cells.size → w.frozen? ⟨g, o + j, none⟩ = false) (h1 : ∀ v ∈ (Builtin.zeroCells z.cells n).toList, v.oneCell' = true) :
    (Builtin.clear_ #[t] ty #[.slice (some ⟨g, o, none⟩) n c]).run P w = .ok (.tuple #[]) (w.setCells g o (Builtin.zeroCells z.cells n).toList) := by
  have hlen : (Builtin.zeroCells z.cells n).toList.length = n * z.cells.size := by rw [Array.length_toList, size_zeroCells]
  have hst := run_storeCells_cells (P := P) g o (Builtin.zeroCells z.cells n).toList 0 w (by rw [hlen]; simpa using hc) (by rw [hlen]; simpa using hf) h1
  simp only [Nat.add_zero] at hst
  rcases n with _ | m
  · simp [Builtin.clear_, run_underlying ht, Builtin.zeroCells, World.setCells]
  · simp [Builtin.clear_, run_underlying ht, zeroValue, typeInfo, hi, hz, hst]
end
section
variable {P : Program} {W w : World} {rs : List Res} {e : TypeId} {k g c n : Nat} {xs : List Value}
theorem run_copy_s (S : Sep W w rs) (j : Nat) (hj : rs[j]? = some (ownV e k (some ⟨g, 0, none⟩) c n xs)) (dT sT ty : TypeId) (i : TypeInfo) (hu : P.underlying dT = some (.slice e)) (hi : P.info? e = some i) (hs : i.size = k)
    (q dl dc sl sc : Nat) (A : Option Addr) (cs : List Value) (hn : cs.length = Nat.min sl dl * k) (B : Nat) (hr : Reads w B A cs) (hq : q + cs.length ≤ xs.length) (h1 : ∀ v ∈ cs, v.oneCell' = true) :
    (Builtin.copy_ #[dT, sT] ty #[.slice (some ⟨g, q, none⟩) dl dc, .slice A sl sc]).run P w = .ok (goInt (Nat.min sl dl)) (w.setCells g q cs) :=
  run_copy_src w dT sT ty e i k g q dl dc sl sc A cs hu hi hs hn B hr (fun m hm => by rw [(own_at S j hj).cell (q + m) (by omega)]; rfl) (fun m hm => (own_at S j hj).free (q + m)) h1
theorem wpList_make_s (S : Sep W w rs) {ops : Array Oper} {rest : List Oper} {o : Oper} {act : Act} {Q : Exit → Act → World → Prop} (hg : o.guard = none) (l cc : Operand) (t : TypeId) (hop : o.op = Op.makeSlice t l cc)
    (e : TypeId) (i : TypeInfo) (z : Value) (k : Nat) (h1 : P.underlying t = some (.slice e)) (h2 : P.info? e = some i) (h3 : i.zero = some z) (h4 : i.size = k)
    (kl kc : IntKind) (n : Nat) (hl : act.eval l = .int kl n) (hc : act.eval cc = .int kc n) (b2 : i.bytes * n ≤ 281474976710656) (b3 : n ≤ maxLen)
    (hK : ∀ w', Sep W w' (rs ++ [ownV e k (some ⟨w.heap.size, 0, none⟩) n n (madeCells z.cells (n * k)).toList]) → wpList P ops Q rest (act.put o.dst (.slice (some ⟨w.heap.size, 0, none⟩) n n)) w') : wpList P ops Q (o :: rest) act w :=
  wpList_make_full w hg l cc t hop w.heap.size e i z k h1 h2 h3 h4 kl kc n n n hl hc rfl rfl b2 b3 (Nat.le_refl _) fun w' h5 h6 =>
    hK w' (push_own S (by
      have := Turned.of_grown h6
      exact this.below (Nat.le_refl _) (fun b hb => by simp at hb)) h5)
end
end Go.Proofs.Ytmnedjhfibmcnaa.Run

/-
  The contract of chapter 5's copyRecord of the program. Condition: at most 2^40 fields. (Written by my program gen_l5cp.py.)
-/
namespace Go.Proofs.Ytmnedjhfibmcnaa.L5
set_option maxRecDepth 100000
open L4 (boxR push_box box_at)
open Go.ChangeShapes Go.WideShapes Go.ChangeAt Go.RowKit Mem Sl Ex L2 Sv Bag Run
set_option linter.unusedVariables false
set_option linter.unusedSimpArgs false

set_option maxHeartbeats 1000000 in
theorem copyRecord_any (a : Option Addr) (c : Nat) (l : List F) (hl : l.length ≤ 1099511627776) (w : World) (hr : Reads w w.heap.size a (cellsF l)) :
    Calls Try.prog 130 #[.agg #[.slice a l.length c]] w fun e w' => ∃ a' c', e = .returned (.agg #[.slice a' l.length c']) ∧ OwnV w' w.heap.size 107 2 a' c' l.length (cellsF l) ∧ Below w.heap.size w w' := by
  obtain ⟨i0, hi, hz0, hz1, hz2⟩ := fieldInfo
  obtain ⟨n, hn⟩ : ∃ n, n = l.length := ⟨_, rfl⟩
  rw [← hn] at hl ⊢
  have HR := Lib.hid (fun w' (h : Below w.heap.size w w') => hr.below h)
  have HC := Lib.hid (show (cellsF l).length = Nat.min n n * 2 by rw [cellsF_length, hn, show Nat.min l.length l.length = l.length from Nat.min_self _])
  have HM := Lib.hid (show (madeCells (Value.agg #[.string ⟨#[]⟩, .int .i64 0]).cells (n * 2)).toList.length = (cellsF l).length by rw [cellsF_length, ← hn]; simp [madeCells])
  have HI := Lib.hid (And.intro hi (And.intro hz0 (And.intro hz1 hz2)))
  have hl' : (n : Int) ≤ 1099511627776 := by omega
  clear hn hr hi hz0 hz1 hz2
  have S1 := Lib.hid (show Sl.Sep w ((w.alloc (.cells #[.slice a n c] 41)).alloc (.cells #[.slice none 0 0] 41)) [L4.boxR w.heap.size 41 #[.slice a n c], L4.boxR (w.heap.size + 1) 41 #[.slice none 0 0]] from L4.push_box (L4.push_box (Sl.Sep.start w) 41 #[.slice a n c] (w.heap.size) (by simp)) 41 #[.slice none 0 0] (w.heap.size + 1) (by simp))
  obtain ⟨wa, hwa⟩ : ∃ u, u = ((w.alloc (.cells #[.slice a n c] 41)).alloc (.cells #[.slice none 0 0] 41)) := ⟨_, rfl⟩
  rw [← hwa] at S1
  go_enter Try.func130, Try.ntmps130
  go_upto_region 1 with fail
  rw [← hwa]
  clear hwa
  have f0 : World.cell? _ ⟨w.heap.size, 0, none⟩ = some (.slice a n c) := Bag.cell_at S1.out 0 rfl 0 rfl
  have f1 : World.cell? _ ⟨w.heap.size + 1, 0, none⟩ = some (.slice none 0 0) := Bag.cell_at S1.out 1 rfl 0 rfl
  go_upto_region 2 with (at_make; refine wpList_make_s S1.out rfl _ _ 39 rfl 107 i0 (.agg #[.string ⟨#[]⟩, .int .i64 0]) 2 Try.underlying39 HI.out.1 HI.out.2.1 HI.out.2.2.1 _ _ n rfl rfl (by rw [HI.out.2.2.2]; omega) (by unfold maxLen; omega) ?_; intro w1 S')
  clear f0 f1
  obtain ⟨g1, hg⟩ : ∃ g', g' = wa.heap.size := ⟨_, rfl⟩
  rw [← hg] at S' ⊢
  clear hg
  have S2 := Lib.hid (show Sl.Sep w _ [L4.boxR w.heap.size 41 #[.slice a n c], L4.boxR (w.heap.size + 1) 41 #[.slice none 0 0], Sv.ownV 107 2 (some ⟨g1, 0, none⟩) n n ((madeCells (Value.agg #[.string ⟨#[]⟩, .int .i64 0]).cells (n * 2)).toList)] from S')
  clear S1
  clear S'
  have f0 : World.cell? _ ⟨w.heap.size, 0, none⟩ = some (.slice a n c) := Bag.cell_at S2.out 0 rfl 0 rfl
  have f1 : World.cell? _ ⟨w.heap.size + 1, 0, none⟩ = some (.slice none 0 0) := Bag.cell_at S2.out 1 rfl 0 rfl
  have hcp := fun ty => run_copy_s (P := Try.prog) S2.out 2 rfl 39 39 ty i0 Try.underlying39 HI.out.1 HI.out.2.2.1 0 n n n c a (cellsF l) HC.out w.heap.size (HR.out _ S2.out.old) (by rw [HM.out]; omega) (cellsF_one l)
  obtain ⟨w2, hw⟩ : ∃ u, u = World.setCells w1 g1 0 (cellsF l) := ⟨_, rfl⟩
  rw [← hw] at hcp
  have HW := Lib.hid hw
  clear hw
  go_upto_region 3 with fail
  clear f0 f1
  have S3 := Lib.hid (show Sl.Sep w _ [L4.boxR w.heap.size 41 #[.slice a n c], L4.boxR (w.heap.size + 1) 41 #[.slice none 0 0], Sv.ownV 107 2 (some ⟨g1, 0, none⟩) n n (cellsF l)] from (by have h := Run.put_run S2.out 2 rfl 0 (cellsF l) (by rw [HM.out]; omega); rw [← HW.out, over_all _ _ HM.out] at h; exact h))
  clear S2
  clear hcp HW
  have f0 : World.cell? _ ⟨w.heap.size, 0, none⟩ = some (.slice a n c) := Bag.cell_at S3.out 0 rfl 0 rfl
  have f1 : World.cell? _ ⟨w.heap.size + 1, 0, none⟩ = some (.slice none 0 0) := Bag.cell_at S3.out 1 rfl 0 rfl
  have z0 := Bag.free_at S3.out 1 rfl 0
  go_wp2_with fail
  clear f0 f1 z0
  have S4 := Lib.hid (show Sl.Sep w _ [L4.boxR w.heap.size 41 #[.slice a n c], L4.boxR (w.heap.size + 1) 41 #[.slice (some ⟨g1, 0, none⟩) n n], Sv.ownV 107 2 (some ⟨g1, 0, none⟩) n n (cellsF l)] from L5.put_box5 (S3.out) 1 rfl 0 (.slice (some ⟨g1, 0, none⟩) n n))
  clear S3
  have f0 : World.cell? _ ⟨w.heap.size + 1, 0, none⟩ = some (.slice (some ⟨g1, 0, none⟩) n n) := Bag.cell_at S4.out 1 rfl 0 rfl
  refine bodyPost_ret (v := .agg #[.slice (some ⟨g1, 0, none⟩) n n]) (by simp [results, Try.results130, go_sem, *]) rfl ?_
  exact ⟨_, _, rfl, Sv.own_from S4.out 2 rfl, S4.out.old⟩
end Go.Proofs.Ytmnedjhfibmcnaa.L5

/-
  The contracts of chapter 6's functions of the program: copyItem, copyStore. Conditions: keys' texts of at most 2^40 bytes, at most 2^20 fields and items. (Written by my program gen_l6g.py.)
-/
namespace Go.Proofs.Ytmnedjhfibmcnaa.L6
set_option maxRecDepth 100000
open L4 (K isK cmpK R inR encU)
open L5 (F isR isN cellsF encR eqR Small)
open Go.ChangeShapes Go.WideShapes Go.ChangeAt Go.RowKit Mem Sl Ex L2 Sv Bag
set_option linter.unusedVariables false
set_option linter.unusedSimpArgs false

set_option maxHeartbeats 2000000 in
theorem copyItem_any (kd n : Int) (s : ByteArray) (a : Option Addr) (c : Nat) (l : List F) (hl : l.length ≤ 1048576) (w : World) (hr : Reads w w.heap.size a (cellsF l)) :
    Calls Try.prog 94 #[.agg #[.int .i64 kd, .int .i64 n, .string s, .slice a l.length c]] w (GaveI w ⟨⟨kd, n, s⟩, l⟩) := by
  have HC := Lib.hid (fun w' (h : Below w.heap.size w w') => L5.copyRecord_any a c l (by have := hl; omega) w' ((hr.below h).more h.size))
  obtain ⟨N, hN⟩ : ∃ n, n = l.length := ⟨_, rfl⟩
  rw [← hN] at HC ⊢
  have HN := Lib.hid hN
  clear hN hr hl
  have S1 := Lib.hid (show Sl.Sep w ((w.alloc (.cells #[.int .i64 kd, .int .i64 n, .string s, .slice a N c] 43)).alloc (.cells #[.int .i64 0, .int .i64 0, .string ⟨#[]⟩, .slice none 0 0] 43)) [L4.boxR w.heap.size 43 #[.int .i64 kd, .int .i64 n, .string s, .slice a N c], L4.boxR (w.heap.size + 1) 43 #[.int .i64 0, .int .i64 0, .string ⟨#[]⟩, .slice none 0 0]] from L4.push_box (L4.push_box (Sl.Sep.start w) 43 #[.int .i64 kd, .int .i64 n, .string s, .slice a N c] (w.heap.size) (by simp)) 43 #[.int .i64 0, .int .i64 0, .string ⟨#[]⟩, .slice none 0 0] (w.heap.size + 1) (by simp))
  obtain ⟨wa, hwa⟩ : ∃ u, u = ((w.alloc (.cells #[.int .i64 kd, .int .i64 n, .string s, .slice a N c] 43)).alloc (.cells #[.int .i64 0, .int .i64 0, .string ⟨#[]⟩, .slice none 0 0] 43)) := ⟨_, rfl⟩
  rw [← hwa] at S1
  go_enter Try.func94, Try.ntmps94
  go_upto_region 1 with fail
  rw [← hwa]
  clear hwa
  go_upto_region 1 with fail
  refine wp_region_held_drew (S := (fun w' => (World.cell? w' ⟨w.heap.size, 0, none⟩ = some (.int .i64 kd) ∧ World.cell? w' ⟨w.heap.size, 1, none⟩ = some (.int .i64 n) ∧ World.cell? w' ⟨w.heap.size, 2, none⟩ = some (.string s) ∧ World.cell? w' ⟨w.heap.size, 3, none⟩ = some (.slice a N c)))) (by kernel_rfl) (Bag.cs4 (Bag.drew1 S1.out) 0 rfl) (fun hS => ?_)
  have S2 := Lib.hid (show Sl.Sep w _ [L4.boxR w.heap.size 43 #[.int .i64 kd, .int .i64 n, .string s, .slice a N c], L4.boxR (w.heap.size + 1) 43 #[.int .i64 0, .int .i64 0, .string ⟨#[]⟩, .slice none 0 0]] from Bag.drew1 S1.out)
  clear S1
  generalize World.drew _ = w1 at hS S2 ⊢
  refine tk 0 rfl ?_
  try simp only [zp0, zp1, zp2, zp3, zp4]
  refine tk 1 rfl ?_
  try simp only [zp0, zp1, zp2, zp3, zp4]
  refine tk 2 rfl ?_
  try simp only [zp0, zp1, zp2, zp3, zp4]
  refine tk 3 rfl ?_
  try simp only [zp0, zp1, zp2, zp3, zp4]
  refine Reg.one_op (i := 4) rfl (by kernel_rfl) (fun K hK => ?_)
  go_simp
  go_at_call 130
  refine (HC.out _ S2.out.old).mono ?_
  rintro e w2 ⟨a1, c1, rfl, ho, hb⟩
  have S3 := Lib.hid (show Sl.Sep w _ [L4.boxR w.heap.size 43 #[.int .i64 kd, .int .i64 n, .string s, .slice a N c], L4.boxR (w.heap.size + 1) 43 #[.int .i64 0, .int .i64 0, .string ⟨#[]⟩, .slice none 0 0], Sv.ownV 107 2 a1 c1 N (cellsF l)] from Sv.push_own S2.out hb ho)
  clear S2
  clear hb ho
  go_wp2_with fail
  refine hK.out _ _ (Bag.cs4 S3.out 0 rfl) (fun hS => ?_)
  clear hK K
  try simp only [zp0, zp1, zp2, zp3, zp4]
  refine tk 5 rfl ?_
  try simp only [zp0, zp1, zp2, zp3, zp4]
  refine Reg.one_op (i := 6) rfl (by kernel_rfl) (fun K hK => ?_)
  have hh := Bag.cs4 S3.out 1 rfl
  have f0 := hh.1; have f1 := hh.2.1; have f2 := hh.2.2.1; have f3 := hh.2.2.2; clear hh
  have hh := Bag.fs4 S3.out 1 rfl
  have z0 := hh.1; have z1 := hh.2.1; have z2 := hh.2.2.1; have z3 := hh.2.2.2; clear hh
  go_simp
  clear f0 f1 f2 f3 z0 z1 z2 z3
  have S4 := Lib.hid (show Sl.Sep w _ [L4.boxR w.heap.size 43 #[.int .i64 kd, .int .i64 n, .string s, .slice a N c], L4.boxR (w.heap.size + 1) 43 #[.int .i64 kd, .int .i64 n, .string s, .slice a1 N c1], Sv.ownV 107 2 a1 c1 N (cellsF l)] from L5.put_box5 (L5.put_box5 (L5.put_box5 (L5.put_box5 (S3.out) 1 rfl 0 (.int .i64 kd)) 1 rfl 1 (.int .i64 n)) 1 rfl 2 (.string s)) 1 rfl 3 (.slice a1 N c1))
  clear S3
  refine hK.out _ _ (Bag.cs4 S4.out 0 rfl) (fun hS => ?_)
  clear hK K
  try simp only [zp0, zp1, zp2, zp3, zp4]
  refine wpAnyH_done (by kernel_rfl) ?_ _
  have hh := Bag.cs4 S4.out 0 rfl
  have f0 := hh.1; have f1 := hh.2.1; have f2 := hh.2.2.1; have f3 := hh.2.2.2; clear hh
  have hh := Bag.cs4 S4.out 1 rfl
  have f4 := hh.1; have f5 := hh.2.1; have f6 := hh.2.2.1; have f7 := hh.2.2.2; clear hh
  go_wp2_with fail
  refine bodyPost_ret (v := .agg #[.int .i64 kd, .int .i64 n, .string s, .slice a1 N c1]) (by simp [results, Try.results94, go_sem, *]) rfl ?_
  have hb := Bag.bag_from (Bag.bag_of_one S4.out 2 (r := (LI.mk ⟨kd, n, s⟩ a1 c1 l).row) (by show some _ = some _; rw [HN.out]; rfl)) 2 rfl
  exact ⟨a1, c1, by rw [HN.out], hb, S4.out.old⟩
def GaveSF (w : World) (s : S6) (e : Ending) (w' : World) : Prop :=
  ∃ (g : Nat) (ys : List LI), e = .returned (.agg #[.string s.name, .slice (some ⟨g, 0, none⟩) ys.length ys.length, .int .i64 s.auto]) ∧ conI ys = s.items ∧ BagOwn w' w.heap.size (rowI (some ⟨g, 0, none⟩) ys.length ys :: rowsI ys) ∧ Below w.heap.size w w'

set_option maxHeartbeats 4000000 in
theorem copyStore_full (y : LS) (hf : FitS y.con) (w : World) (hr : RowsRd w w.heap.size y.rows) :
    Calls Try.prog 61 #[y.v] w (GaveSF w y.con) := by
  obtain ⟨i0, hi1, hi2, hi3, hi4⟩ := itemInfo
  have HI := Lib.hid (And.intro hi1 (And.intro hi2 (And.intro hi3 hi4)))
  clear hi1 hi2 hi3 hi4
  obtain ⟨name, a, c, xs, auto⟩ := y
  have HR := Lib.hid (fun w' (h : Below w.heap.size w w') => LS.outer (hr.below h))
  have HX := Lib.hid (fun w' (h : Below w.heap.size w w') => (LS.inner (hr.below h)).more h.size)
  have HF := Lib.hid hf.items
  have HNM := Lib.hid hf.name
  have hl := hf.len
  simp only [LS.con, conI_length] at hl
  dsimp only [LS.con] at HR HX HF HNM
  try unfold LS.v LS.cells LS.con
  try dsimp only
  obtain ⟨N, hN⟩ : ∃ n, n = xs.length := ⟨_, rfl⟩
  rw [← hN] at hl ⊢
  have hl' : (N : Int) ≤ 1048576 := by omega
  have HN := Lib.hid hN
  clear hN hr hf
  obtain ⟨Z, hZ⟩ : ∃ Z, Z = (madeCells (Value.agg #[.int .i64 0, .int .i64 0, .string ⟨#[]⟩, .slice none 0 0]).cells (N * 4)).toList := ⟨_, rfl⟩
  have HZ := Lib.hid (show Z.length = N * 4 by rw [hZ]; simp [madeCells])
  have HZD := Lib.hid hZ
  clear hZ
  have S1 := Lib.hid (show Sl.Sep w ((w.alloc (.cells #[.string name, .slice a N c, .int .i64 auto] 26)).alloc (.cells #[.string ⟨#[]⟩, .slice none 0 0, .int .i64 0] 26)) [L4.boxR w.heap.size 26 #[.string name, .slice a N c, .int .i64 auto], L4.boxR (w.heap.size + 1) 26 #[.string ⟨#[]⟩, .slice none 0 0, .int .i64 0]] from L4.push_box (L4.push_box (Sl.Sep.start w) 26 #[.string name, .slice a N c, .int .i64 auto] (w.heap.size) (by simp)) 26 #[.string ⟨#[]⟩, .slice none 0 0, .int .i64 0] (w.heap.size + 1) (by simp))
  obtain ⟨wa, hwa⟩ : ∃ u, u = ((w.alloc (.cells #[.string name, .slice a N c, .int .i64 auto] 26)).alloc (.cells #[.string ⟨#[]⟩, .slice none 0 0, .int .i64 0] 26)) := ⟨_, rfl⟩
  rw [← hwa] at S1
  go_enter Try.func61, Try.ntmps61
  go_upto_region 1 with fail
  rw [← hwa]
  clear hwa
  have hh := Bag.cs3 S1.out 0 rfl
  have f0 := hh.1; have f1 := hh.2.1; have f2 := hh.2.2; clear hh
  have hh := Bag.cs3 S1.out 1 rfl
  have f3 := hh.1; have f4 := hh.2.1; have f5 := hh.2.2; clear hh
  go_upto_region 2 with (at_make; refine Run.wpList_make_s S1.out rfl _ _ 24 rfl 43 i0 (.agg #[.int .i64 0, .int .i64 0, .string ⟨#[]⟩, .slice none 0 0]) 4 Try.underlying24 HI.out.1 HI.out.2.1 HI.out.2.2.1 _ _ N rfl rfl (by rw [HI.out.2.2.2]; omega) (by unfold maxLen; omega) ?_; intro w1 S')
  clear f0 f1 f2 f3 f4 f5
  obtain ⟨g1, hg⟩ : ∃ g', g' = wa.heap.size := ⟨_, rfl⟩
  rw [← hg] at S' ⊢
  clear hg
  have S2 := Lib.hid (show Sl.Sep w _ [L4.boxR w.heap.size 26 #[.string name, .slice a N c, .int .i64 auto], L4.boxR (w.heap.size + 1) 26 #[.string ⟨#[]⟩, .slice none 0 0, .int .i64 0], Sv.ownV 43 4 (some ⟨g1, 0, none⟩) N N (cellsI [] ++ Z)] from (by have h := S'; rw [← HZD.out] at h; exact h))
  clear S1
  clear S'
  have S3 := Lib.hid (show Sl.Sep w _ [L4.boxR w.heap.size 26 #[.string name, .slice a N c, .int .i64 auto], L4.boxR (w.heap.size + 1) 26 #[.string ⟨#[]⟩, .slice none 0 0, .int .i64 0], Sv.ownV 43 4 (some ⟨g1, 0, none⟩) N N (cellsI [] ++ Z), Bag.bag (rowsI [])] from Bag.push_bag S2.out (Below.refl _ _) (Bag.BagOwn.nil _ _))
  clear S2
  have hh := Bag.cs3 S3.out 0 rfl
  have f0 := hh.1; have f1 := hh.2.1; have f2 := hh.2.2; clear hh
  have hh := Bag.cs3 S3.out 1 rfl
  have f3 := hh.1; have f4 := hh.2.1; have f5 := hh.2.2; clear hh
  go_wp2_with fail
  clear f0 f1 f2 f3 f4 f5
  go_loopw [13] (fun i wr => ∃ (k : Nat) (ys : List LI) (Zs : List Value), k ≤ N ∧ i = .int .i64 k ∧ Hid ((conI ys = (conI xs).take k ∧ ys.length = k ∧ Zs.length = (N - k) * 4) ∧ Sl.Sep w wr [L4.boxR w.heap.size 26 #[.string name, .slice a N c, .int .i64 auto], L4.boxR (w.heap.size + 1) 26 #[.string ⟨#[]⟩, .slice none 0 0, .int .i64 0], Sv.ownV 43 4 (some ⟨g1, 0, none⟩) N N (cellsI ys ++ Zs), Bag.bag (rowsI ys)])) (fun i _ => N - (intOf i).toNat)
  case atStart => exact ⟨0, [], Z, Nat.zero_le _, rfl, And.intro ⟨rfl, rfl, HZ.out⟩ S3.out⟩
  case round =>
    obtain ⟨k, ys, Zs, hk, rfl, hrel⟩ := hrel
    have HC := Lib.hid hrel.out.1
    have S4 := Lib.hid hrel.out.2
    clear hrel S3
    by_cases hlt : (k : Int) < (N : Int)
    · skip
      have hkl : k < xs.length := by have := HN.out; omega
      obtain ⟨ad, x, rfl, hx⟩ := readsI_some (HR.out _ S4.out.old) k hkl
      obtain ⟨⟨kd, n, t⟩, ia, ic, l⟩ := x
      have HK := Lib.hid (fun w' (h : Below w.heap.size w w') => readsI_at (HR.out _ h) k _ hx)
      try dsimp only at HK
      have HFI := Lib.hid (fit_at HF.out hx)
      try dsimp only [LI.con] at HFI
      have HCI := Lib.hid (fun w' (h : Below w.heap.size w w') => copyItem_any kd n t ia ic l (fit_at HF.out hx).len w' (((HX.out _ h).at_ (rowsI_mem hx)).reads))
      try dsimp only at HCI
      have HT := Lib.hid (conI_take hx)
      clear hx
      have HL := Lib.hid (show (cellsI ys).length = k * 4 ∧ k * 4 + 4 ≤ (cellsI ys ++ Zs).length ∧ 4 ≤ Zs.length from by have h1 := HC.out.2.1; have h2 := HC.out.2.2; rw [List.length_append, cellsI_length, h1, h2]; omega)
      have hh := Bag.cs3 S4.out 0 rfl
      have f0 := hh.1; have f1 := hh.2.1; have f2 := hh.2.2; clear hh
      have hh := Bag.cs3 S4.out 1 rfl
      have f3 := hh.1; have f4 := hh.2.1; have f5 := hh.2.2; clear hh
      have hh := HK.out _ S4.out.old
      have f6 := hh.1; have f7 := hh.2.1; have f8 := hh.2.2.1; have f9 := hh.2.2.2; clear hh
      go_upto_region 5 with fail
      clear f0 f1 f2 f3 f4 f5 f6 f7 f8 f9
      have S5 := Lib.hid (show Sl.Sep w _ [L4.boxR w.heap.size 26 #[.string name, .slice (some ad) N c, .int .i64 auto], L4.boxR (w.heap.size + 1) 26 #[.string ⟨#[]⟩, .slice none 0 0, .int .i64 0], Sv.ownV 43 4 (some ⟨g1, 0, none⟩) N N (cellsI ys ++ Zs), Bag.bag (rowsI ys), L4.boxR wr.heap.size 43 #[.int .i64 kd, .int .i64 n, .string t, .slice ia l.length ic]] from L4.push_box S4.out 43 #[.int .i64 kd, .int .i64 n, .string t, .slice ia l.length ic] wr.heap.size rfl)
      clear S4
      obtain ⟨g2, hg⟩ : ∃ g', g' = wr.heap.size := ⟨_, rfl⟩
      rw [← hg] at S5 ⊢
      clear hg
      generalize wr.alloc (.cells #[.int .i64 kd, .int .i64 n, .string t, .slice ia l.length ic] 43) = w2 at S5 ⊢
      have hh := Bag.cs3 S5.out 0 rfl
      have f0 := hh.1; have f1 := hh.2.1; have f2 := hh.2.2; clear hh
      have hh := Bag.cs3 S5.out 1 rfl
      have f3 := hh.1; have f4 := hh.2.1; have f5 := hh.2.2; clear hh
      have hh := Bag.cs4 S5.out 4 rfl
      have f6 := hh.1; have f7 := hh.2.1; have f8 := hh.2.2.1; have f9 := hh.2.2.2; clear hh
      have hh := HK.out _ S5.out.old
      have f10 := hh.1; have f11 := hh.2.1; have f12 := hh.2.2.1; have f13 := hh.2.2.2; clear hh
      go_wp2_with fail
      go_at_call 94
      refine (HCI.out _ S5.out.old).mono ?_
      rintro e w3 ⟨a1, c1, rfl, ho, hb⟩
      clear f0 f1 f2 f3 f4 f5 f6 f7 f8 f9 f10 f11 f12 f13
      have S6 := Lib.hid (show Sl.Sep w _ [L4.boxR w.heap.size 26 #[.string name, .slice (some ad) N c, .int .i64 auto], L4.boxR (w.heap.size + 1) 26 #[.string ⟨#[]⟩, .slice none 0 0, .int .i64 0], Sv.ownV 43 4 (some ⟨g1, 0, none⟩) N N (cellsI ys ++ Zs), Bag.bag (rowsI ys), L4.boxR g2 43 #[.int .i64 kd, .int .i64 n, .string t, .slice ia l.length ic], Bag.bag ([(LI.mk ⟨kd, n, t⟩ a1 c1 l).row])] from Bag.push_bag S5.out hb ho)
      clear S5
      clear hb ho
      have q0 := (Sv.own_at S6.out 2 rfl).cell (k * 4) (by have := HL.out.2.1; omega)
      have z0 := (Sv.own_at S6.out 2 rfl).free (k * 4)
      have q1 := (Sv.own_at S6.out 2 rfl).cell (k * 4 + 1) (by have := HL.out.2.1; omega)
      have z1 := (Sv.own_at S6.out 2 rfl).free (k * 4 + 1)
      have q2 := (Sv.own_at S6.out 2 rfl).cell (k * 4 + 2) (by have := HL.out.2.1; omega)
      have z2 := (Sv.own_at S6.out 2 rfl).free (k * 4 + 2)
      have q3 := (Sv.own_at S6.out 2 rfl).cell (k * 4 + 3) (by have := HL.out.2.1; omega)
      have z3 := (Sv.own_at S6.out 2 rfl).free (k * 4 + 3)
      go_wp2_with fail
      clear q0 z0 q1 z1 q2 z2 q3 z3
      have S7 := Lib.hid (show Sl.Sep w (World.setCells w3 g1 (k * 4) [.int .i64 kd, .int .i64 n, .string t, .slice a1 l.length c1]) [L4.boxR w.heap.size 26 #[.string name, .slice (some ad) N c, .int .i64 auto], L4.boxR (w.heap.size + 1) 26 #[.string ⟨#[]⟩, .slice none 0 0, .int .i64 0], Sv.ownV 43 4 (some ⟨g1, 0, none⟩) N N (cellsI (ys ++ [⟨⟨kd, n, t⟩, a1, c1, l⟩]) ++ Zs.drop 4), Bag.bag (rowsI ys), L4.boxR g2 43 #[.int .i64 kd, .int .i64 n, .string t, .slice ia l.length ic], Bag.bag ([(LI.mk ⟨kd, n, t⟩ a1 c1 l).row])] from (by have h := Run.put_run S6.out 2 rfl (k * 4) [.int .i64 kd, .int .i64 n, .string t, .slice a1 l.length c1] (by have := HL.out.2.1; simpa using this); rw [Run.over_at _ _ _ _ HL.out.1 (by have := HL.out.2.2; simpa using this)] at h; rw [cellsI_append, List.append_assoc]; exact h))
      clear S6
      have S8 := Lib.hid (show Sl.Sep w _ [L4.boxR w.heap.size 26 #[.string name, .slice (some ad) N c, .int .i64 auto], L4.boxR (w.heap.size + 1) 26 #[.string ⟨#[]⟩, .slice none 0 0, .int .i64 0], Sv.ownV 43 4 (some ⟨g1, 0, none⟩) N N (cellsI (ys ++ [⟨⟨kd, n, t⟩, a1, c1, l⟩]) ++ Zs.drop 4), Bag.bag (rowsI ys ++ ([(LI.mk ⟨kd, n, t⟩ a1 c1 l).row])), L4.boxR g2 43 #[.int .i64 kd, .int .i64 n, .string t, .slice ia l.length ic], Bag.bag ([])] from Bag.bag_join S7.out 3 5 (by decide) rfl rfl)
      clear S7
      have S9 := Lib.hid (show Sl.Sep w _ [L4.boxR w.heap.size 26 #[.string name, .slice (some ad) N c, .int .i64 auto], L4.boxR (w.heap.size + 1) 26 #[.string ⟨#[]⟩, .slice none 0 0, .int .i64 0], Sv.ownV 43 4 (some ⟨g1, 0, none⟩) N N (cellsI (ys ++ [⟨⟨kd, n, t⟩, a1, c1, l⟩]) ++ Zs.drop 4), Bag.bag (rowsI ys ++ ([(LI.mk ⟨kd, n, t⟩ a1 c1 l).row]))] from Bag.take S8.out [0, 1, 2, 3] (by rfl) (by decide))
      clear S8
      go_roundw
      case rel =>
        refine ⟨k + 1, ys ++ [⟨⟨kd, n, t⟩, a1, c1, l⟩], Zs.drop 4, by omega, by go_num, And.intro ⟨?_, ?_, ?_⟩ ?_⟩
        · rw [HT.out, ← HC.out.1]; exact List.map_append
        · rw [List.length_append, HC.out.2.1]; rfl
        · rw [List.length_drop, HC.out.2.2]; omega
        · rw [rowsI_append]; exact S9.out
      case measure => simp [intOf]; omega
    · skip
      obtain rfl : k = N := by omega
      have hh := Bag.cs3 S4.out 0 rfl
      have f0 := hh.1; have f1 := hh.2.1; have f2 := hh.2.2; clear hh
      have hh := Bag.cs3 S4.out 1 rfl
      have f3 := hh.1; have f4 := hh.2.1; have f5 := hh.2.2; clear hh
      have hh := Bag.fs3 S4.out 1 rfl
      have z0 := hh.1; have z1 := hh.2.1; have z2 := hh.2.2; clear hh
      go_wp2_with fail
      clear f0 f1 f2 f3 f4 f5 z0 z1 z2
      have S5 := Lib.hid (show Sl.Sep w _ [L4.boxR w.heap.size 26 #[.string name, .slice a k c, .int .i64 auto], L4.boxR (w.heap.size + 1) 26 #[.string name, .slice (some ⟨g1, 0, none⟩) k k, .int .i64 auto], Sv.ownV 43 4 (some ⟨g1, 0, none⟩) k k (cellsI ys ++ Zs), Bag.bag (rowsI ys)] from L5.put_box5 (L5.put_box5 (L5.put_box5 (S4.out) 1 rfl 0 (.string name)) 1 rfl 1 (.slice (some ⟨g1, 0, none⟩) k k)) 1 rfl 2 (.int .i64 auto))
      clear S4
      have hh := Bag.cs3 S5.out 1 rfl
      have f0 := hh.1; have f1 := hh.2.1; have f2 := hh.2.2; clear hh
      refine bodyPost_ret (v := .agg #[.string name, .slice (some ⟨g1, 0, none⟩) k k, .int .i64 auto]) (by simp [results, Try.results61, go_sem, *]) rfl ?_
      obtain ⟨hc1, hc2, hc3⟩ := HC.out
      have hZs : Zs = [] := List.eq_nil_of_length_eq_zero (by rw [hc3]; omega)
      have hcon : conI ys = conI xs := by rw [hc1, List.take_of_length_le (by have := HN.out; simp; omega)]
      have S90 := Lib.hid (Bag.bag_of_one S5.out 2 (r := rowI (some ⟨g1, 0, none⟩) k ys) (by unfold RowS.res rowI; dsimp only; rw [hZs, List.append_nil, hc2]; rfl))
      have S91 := Lib.hid (Bag.bag_join S90.out 2 3 (by decide) rfl rfl)
      have hb := Bag.bag_from S91.out 2 rfl
      subst hc2
      exact ⟨g1, ys, rfl, hcon, hb, S91.out.old⟩
end Go.Proofs.Ytmnedjhfibmcnaa.L6

/-
  The contracts of the library's comparisons and of CompareBytes of the program: cmp.Compare, strings.Compare, bytes.Compare, CompareBytes. No condition.
-/
namespace Go.Proofs.Ytmnedjhfibmcnaa.L4
set_option maxRecDepth 100000
open Go.Op (bytesLess)
open Go.ChangeShapes Go.WideShapes Go.ChangeAt Go.RowKit Mem Sl Ex L2
set_option linter.unusedVariables false

theorem cmpB_eq : ∀ (x y : List UInt8), Lib.compareBytes x y = cmpL x y
  | [], [] => by simp [Lib.compareBytes, cmpL, sgn, bytesLess]
  | [], _ :: _ => by simp [Lib.compareBytes, cmpL, sgn, bytesLess]
  | _ :: _, [] => by simp [Lib.compareBytes, cmpL, sgn, bytesLess]
  | a :: x, b :: y => by
    rw [cmpL_cons, ← cmpB_eq x y, show Lib.compareBytes (a :: x) (b :: y) = if a < b then -1 else if b < a then 1 else Lib.compareBytes x y by simp only [Lib.compareBytes]]
    by_cases e : a = b
    · subst e
      rw [if_pos rfl, if_neg (UInt8.lt_irrefl _), if_neg (UInt8.lt_irrefl _)]
    · rw [if_neg e]
      by_cases h : a < b
      · rw [if_pos h, cmpL_less (by simp [bytesLess, h])]
      · have h2 : b < a := UInt8.lt_of_le_of_ne (UInt8.not_lt.1 h) (Ne.symm e)
        rw [if_neg h, if_pos h2, cmpL_more (by simp [bytesLess, h2])]

theorem run_loadBytesL {P : Program} (w : World) : ∀ (l : List Int) (a : Addr) (acc : ByteArray), (∀ j (hj : j < l.length), w.cell? (a.add j) = some (.int .u8 l[j])) →
    (Extern.Bytes.loadBytes a l.length acc).run P w = .ok ⟨acc.data ++ (toU l).toArray⟩ w
  | [], a, acc, _ => by simp [Extern.Bytes.loadBytes, toU]
  | x :: l, a, acc, h => by
    have h0 : w.cell? a = some (.int .u8 x) := by
      have := h 0 (Nat.succ_pos _)
      simpa [Addr.add] using this
    have ih := run_loadBytesL (P := P) w l (a.add 1) (acc.push x.toNat.toUInt8) (fun j hj => by
      have := h (j + 1) (Nat.succ_lt_succ hj)
      have e : (a.add 1).add j = a.add (j + 1) := by
        unfold Addr.add
        by_cases hj : j = 0
        · subst hj; simp
        · simp [hj]; omega
      rw [e]; simpa using this)
    simp only [List.length_cons, Extern.Bytes.loadBytes, Sem.run_bind, run_load, h0, Result.andThen]
    rw [ih]
    congr 1
    apply ByteArray.ext
    simp [ByteArray.push, toU, UInt8.ofNat]
theorem run_bytesOf {P : Program} (w : World) (B : Nat) (a : Option Addr) (c : Nat) (l : List Int) (hr : Reads w B a (ints .u8 l)) :
    (Extern.Bytes.bytesOf (.slice a l.length c)).run P w = .ok ⟨(toU l).toArray⟩ w := by
  rcases a with _ | ad
  · have hl : l = [] := by
      rcases l with _ | ⟨x, l⟩
      · rfl
      · obtain ⟨ad, h, _⟩ := hr 0 (by simp [ints])
        cases h
    subst hl
    rfl
  · have := run_loadBytesL (P := P) w l ad .empty (fun j hj => by
      obtain ⟨ad', h, _, hc⟩ := hr j (by simpa using hj)
      injection h with h
      subst h
      rw [hc, ints_get .u8 l j hj])
    unfold Extern.Bytes.bytesOf
    rw [this]
    simp [ByteArray.empty, ByteArray.emptyWithCapacity]
    rfl
theorem run_compareBytes {P : Program} (w : World) (B : Nat) (a a2 : Option Addr) (c c2 : Nat) (l m : List Int) (hr : Reads w B a (ints .u8 l)) (hr2 : Reads w B a2 (ints .u8 m)) :
    (Extern.BytealgCompare.compare #[.slice a l.length c, .slice a2 m.length c2]).run P w = .ok (.int .i64 (cmpL (toU l) (toU m))) w := by
  change Sem.run P (do pure (goInt (Extern.BytealgCompare.cmp (← Extern.Bytes.bytesOf (.slice a l.length c)) (← Extern.Bytes.bytesOf (.slice a2 m.length c2))))) w = _
  simp only [Sem.run_bind, run_bytesOf w B a c l hr, run_bytesOf w B a2 c2 m hr2, Sem.run_pure, Result.andThen]
  rw [Lib.cmp_eq, cmpB_eq]
  rfl

theorem bytesCompare_any (a a2 : Option Addr) (c c2 : Nat) (l m : List Int) (w : World) (B : Nat) (hr : Reads w B a (ints .u8 l)) (hr2 : Reads w B a2 (ints .u8 m)) :
    Calls Try.prog 147 #[.slice a l.length c, .slice a2 m.length c2] w fun e w' => e = .returned (.int .i64 (cmpL (toU l) (toU m))) ∧ w = w' := by
  have K := run_compareBytes (P := Try.prog) w B a a2 c c2 l m hr hr2
  obtain ⟨n1, hn1⟩ : ∃ n, n = l.length := ⟨_, rfl⟩
  obtain ⟨n2, hn2⟩ : ∃ n, n = m.length := ⟨_, rfl⟩
  obtain ⟨v, hv⟩ : ∃ v, v = cmpL (toU l) (toU m) := ⟨_, rfl⟩
  rw [← hn1, ← hn2, ← hv] at K
  rw [← hn1, ← hn2, ← hv]
  clear hn1 hn2 hv hr hr2
  go_enter Try.func147, Try.ntmps147
  go_wp2
  rw [run_callFunc_extern Try.func155 (by kernel_rfl) (by kernel_rfl) (by kernel_rfl) (e := Extern.BytealgCompare.compare) (by kernel_rfl), K]
  simp only [Result.andThen]
  rw [Oper.upon_value]
  go_wp2
  go_ret
  exact ⟨rfl, rfl⟩
theorem implCompareBytes_any (a a2 : Option Addr) (c c2 : Nat) (l m : List Int) (w : World) (B : Nat) (hr : Reads w B a (ints .u8 l)) (hr2 : Reads w B a2 (ints .u8 m)) :
    Calls Try.prog 126 #[.slice a l.length c, .slice a2 m.length c2] w fun e w' => e = .returned (.int .i64 (cmpL (toU l) (toU m))) ∧ Drew w w' := by
  have H := Lib.hid (fun w hr hr2 => bytesCompare_any a a2 c c2 l m w B hr hr2)
  go_enter Try.func126, Try.ntmps126
  go_wp2_with (go_at_call 147; with_reducible refine (H.out _ hr hr2).mono ?_; rintro e w1 ⟨rfl, rfl⟩)
  go_ret
  exact ⟨rfl, Drew.refl w⟩

theorem compareString_any (a b : ByteArray) (w : World) :
    Calls Try.prog 148 #[.string a, .string b] w fun e w' => e = .returned (.int .i64 (cmpL a.data.toList b.data.toList)) ∧ w = w' := by
  have K := Lib.run_compareString (P := Try.prog) a b w
  rw [cmpB_eq] at K
  obtain ⟨v, hv⟩ : ∃ v, v = cmpL a.data.toList b.data.toList := ⟨_, rfl⟩
  rw [← hv] at K ⊢
  clear hv
  go_enter Try.func148, Try.ntmps148
  go_wp2
  rw [run_callFunc_extern Try.func156 (by kernel_rfl) (by kernel_rfl) (by kernel_rfl) (e := Extern.BytealgCompare.compare) (by kernel_rfl), K]
  simp only [Result.andThen]
  rw [Oper.upon_value]
  go_wp2
  go_ret
  exact ⟨rfl, rfl⟩
theorem stringsCompare_any (a b : ByteArray) (w : World) :
    Calls Try.prog 127 #[.string a, .string b] w fun e w' => e = .returned (.int .i64 (cmpL a.data.toList b.data.toList)) ∧ w = w' := by
  have H := Lib.hid (fun w => compareString_any a b w)
  go_enter Try.func127, Try.ntmps127
  go_wp2_with (go_at_call 148; with_reducible refine (H.out _).mono ?_; rintro e w1 ⟨rfl, rfl⟩)
  go_ret
  exact ⟨rfl, rfl⟩
theorem isNaN_any (x : Int) (w : World) :
    Calls Try.prog 125 #[.int .i64 x] w fun e w' => e = .returned (.bool false) ∧ w = w' := by
  go_enter Try.func125, Try.ntmps125
  go_wp2
  go_ret
  exact ⟨by simp, rfl⟩
theorem cmpInt_any (x y : Int) (hn : ¬ x = y) (w : World) :
    Calls Try.prog 86 #[.int .i64 x, .int .i64 y] w fun e w' => e = .returned (.int .i64 (sgn (decide (x < y)) true)) ∧ w = w' := by
  have H := Lib.hid isNaN_any
  rcases (show x < y ∨ (¬ x < y ∧ x > y) by omega) with h | ⟨h, h2⟩
  all_goals
    go_enter Try.func86, Try.ntmps86
    go_wp2_with (go_at_call 125; refine (H.out _ _).mono ?_; rintro e w1 ⟨rfl, rfl⟩)
    go_ret
    exact ⟨by simp [h, sgn], rfl⟩
end Go.Proofs.Ytmnedjhfibmcnaa.L4

/-
  The contracts of chapter 4's tests of the program: isLetter, isDigit, isKeyNumber, isKeyText, IsKey. Conditions: a text of at most 2^48 bytes.
-/
namespace Go.Proofs.Ytmnedjhfibmcnaa.L4
set_option maxRecDepth 100000
open Go.ChangeShapes Go.WideShapes Go.ChangeAt Go.RowKit Mem Sl Ex L2
set_option linter.unusedVariables false

def isDig (c : UInt8) : Bool := decide (48 ≤ c.toNat) && decide (c.toNat ≤ 57)
theorem chr_eq (c : UInt8) : chr c = (isLet c || isDig c) := rfl

theorem isDigit_any (c : UInt8) (w : World) :
    Calls Try.prog 154 #[.int .u8 c.toNat] w fun e w' => e = .returned (.bool (isDig c)) ∧ w = w' := by
  by_cases h1 : (48 : Int) ≤ c.toNat <;> by_cases h2 : (c.toNat : Int) ≤ 57 <;>
    (go_enter Try.func154, Try.ntmps154
     go_wp2
     go_ret
     exact ⟨L1.ret_bool (by unfold isDig; have h1' := h1; have h2' := h2; simp only [Bool.false_eq, Bool.true_eq, Bool.and_eq_false_iff, Bool.and_eq_true, decide_eq_false_iff_not, decide_eq_true_eq]; omega), rfl⟩)
theorem isKeyNumber_any (n : Int) (w : World) :
    Calls Try.prog 142 #[.int .i64 n] w fun e w' => e = .returned (.bool (L1.inB n (-1000000000000) 1000000000000)) ∧ w = w' := by
  have H1 := Lib.hid (fun w => L1.inRange_any n (-1000000000000) 1000000000000 w)
  obtain ⟨b, hb⟩ : ∃ b, L1.inB n (-1000000000000) 1000000000000 = b := ⟨_, rfl⟩
  rw [hb] at H1 ⊢
  go_enter Try.func142, Try.ntmps142
  go_wp2_with (go_at_call 117; with_reducible refine (H1.out _).mono ?_; rintro e w1 ⟨rfl, rfl⟩)
  go_ret
  exact ⟨rfl, rfl⟩
theorem isKeyText_any (s : ByteArray) (hs : s.size ≤ 281474976710656) (w : World) :
    Calls Try.prog 143 #[.string s] w fun e w' => e = .returned (.bool (isT s.data.toList)) ∧ w = w' := by
  have hsz : s.data.toList.length = s.size := by rw [Array.length_toList]; rfl
  have HZ := Lib.hid hsz
  clear hsz
  by_cases h12 : (s.size : Int) ≤ 12
  · go_enter Try.func143, Try.ntmps143
    go_wp2
    go_loop [9] (fun i => ∃ k : Nat, k ≤ s.size ∧ i = .int .i64 k ∧ Hid (∀ j (hj : j < s.data.toList.length), j < k → chr s.data.toList[j] = true)) (fun i => s.size - (intOf i).toNat)
    case atStart => exact ⟨0, Nat.zero_le _, rfl, fun j hj h => by omega⟩
    case round =>
      obtain ⟨k, hk, rfl, hrel⟩ := hrel
      by_cases hlt : k < s.size
      · have hb : s.data.toList[k]? = some s[k] := by
          rw [List.getElem?_eq_getElem (by rw [HZ.out]; exact hlt)]
          rfl
        have HB := Lib.hid hb
        clear hb
        have HC := Lib.hid (chr_eq s[k])
        have H1 := Lib.hid (fun w => isLetter_any s[k] w)
        have H2 := Lib.hid (fun w => isDigit_any s[k] w)
        obtain ⟨bl, hbl⟩ : ∃ b, isLet s[k] = b := ⟨_, rfl⟩
        obtain ⟨bd, hbd⟩ : ∃ b, isDig s[k] = b := ⟨_, rfl⟩
        rw [hbl] at H1 HC
        rw [hbd] at H2 HC
        clear hbl hbd
        cases bl
        all_goals
          cases bd
          all_goals
            go_wp2_with (first
              | (go_at_call 141; refine (H1.out _).mono ?_; rintro e w1 ⟨rfl, rfl⟩)
              | (go_at_call 154; refine (H2.out _).mono ?_; rintro e w1 ⟨rfl, rfl⟩))
            first
            | (go_round
               case rel => exact ⟨k + 1, by omega, by go_num, fun j hj h => by
                  by_cases e : j < k
                  · exact hrel.out j hj e
                  · obtain rfl : j = k := by omega
                    have := HB.out
                    rw [List.getElem?_eq_getElem hj] at this
                    rw [Option.some.inj this]
                    exact HC.out⟩
               case measure => simp [intOf]; omega)
            | (go_ret
               exact ⟨by rw [isT_no k _ HB.out HC.out]; rfl, rfl⟩)
      · go_wp2
        go_ret
        obtain rfl : k = s.size := by omega
        have e1 := isT_all (fun j hj => hrel.out j hj (by rw [HZ.out] at hj; exact hj))
        rw [HZ.out] at e1
        refine ⟨?_, rfl⟩
        rw [e1, decide_eq_true (show s.size ≤ 12 by omega)]
        rfl
  · go_enter Try.func143, Try.ntmps143
    go_wp2
    go_ret
    refine ⟨?_, rfl⟩
    have : isT s.data.toList = false := by
      unfold isT
      rw [HZ.out, decide_eq_false (show ¬ s.size ≤ 12 by omega), Bool.and_false]
    rw [this]
    rfl
set_option maxHeartbeats 2000000 in
theorem implIsKey_any (k : K) (hs : k.text.size ≤ 281474976710656) (w : World) :
    Calls Try.prog 118 #[k.v] w fun e w' => e = .returned (.bool (isK k)) ∧ Below w.heap.size w w' := by
  obtain ⟨kd, n, s⟩ := k
  unfold K.v
  obtain ⟨b2, hb2⟩ : ∃ b, L1.inB n (-1000000000000) 1000000000000 = b := ⟨_, rfl⟩
  obtain ⟨b4, hb4⟩ : ∃ b, isT s.data.toList = b := ⟨_, rfl⟩
  have H2 := Lib.hid (fun w => isKeyNumber_any n w)
  have H4 := Lib.hid (fun w => isKeyText_any s hs w)
  rw [hb2] at H2
  rw [hb4] at H4
  obtain ⟨c0, hc0⟩ : ∃ b, (n == 0) = b := ⟨_, rfl⟩
  obtain ⟨ct, hct⟩ : ∃ b, (s.toList == []) = b := ⟨_, rfl⟩
  have HE := show isK ⟨kd, n, s⟩ = (L1.inB kd 1 3 && b2 && (kd != 2 || c0) && b4 && (kd != 1 || ct)) by unfold isK; rw [hb2, show K.t ⟨kd, n, s⟩ = s.data.toList from rfl, hb4, ← hct, ByteArray.toList_eq, ← hc0]
  have hx1 : ct = true → b4 = true := fun h => by
    rw [h, ByteArray.toList_eq, beq_iff_eq] at hct
    rw [← hb4, hct]
    rfl
  have hx2 : c0 = true → b2 = true := fun h => by
    rw [h, beq_iff_eq] at hc0
    rw [← hb2, hc0]
    rfl
  have HB := Lib.hid (fun o => below_alloc (Below.refl w.heap.size w) o (Nat.le_refl _))
  clear hb2 hb4
  rcases (show kd = 1 ∨ kd = 2 ∨ kd = 3 ∨ (kd ≠ 1 ∧ kd ≠ 2 ∧ kd ≠ 3) by omega) with rfl | rfl | rfl | ⟨hk1, hk2, hk3⟩
  · rw [show isK ⟨1, n, s⟩ = (b2 && ct) by rw [HE]; revert hx1; cases b2 <;> cases b4 <;> cases ct <;> simp [L1.inB]]
    clear HE hc0 hx1 hx2
    rcases (show b2 = false ∨ b2 = true by cases b2 <;> simp) with rfl | rfl
    all_goals
      go_enter Try.func118, Try.ntmps118
      go_wp2_with (go_at_call 142; with_reducible refine (H2.out _).mono ?_; rintro e w1 ⟨rfl, rfl⟩)
      go_ret
      exact ⟨rfl, HB.out _⟩
  · rw [show isK ⟨2, n, s⟩ = (c0 && b4) by rw [HE]; revert hx2; cases b2 <;> cases b4 <;> cases c0 <;> simp [L1.inB]]
    clear HE hct hx1 hx2
    rcases (show c0 = false ∨ c0 = true by cases c0 <;> simp) with rfl | rfl
    all_goals
      go_enter Try.func118, Try.ntmps118
      go_wp2_with (go_at_call 143; refine (H4.out _).mono ?_; rintro e w1 ⟨rfl, rfl⟩)
      go_ret
      exact ⟨rfl, HB.out _⟩
  · rw [show isK ⟨3, n, s⟩ = (b2 && b4) by rw [HE]; cases b2 <;> cases b4 <;> cases c0 <;> cases ct <;> simp [L1.inB]]
    clear HE hct hc0 hx1 hx2
    rcases (show b2 = false ∨ b2 = true by cases b2 <;> simp) with rfl | rfl
    all_goals
      go_enter Try.func118, Try.ntmps118
      go_wp2_with (first
        | (go_at_call 142; with_reducible refine (H2.out _).mono ?_; rintro e w1 ⟨rfl, rfl⟩)
        | (go_at_call 143; refine (H4.out _).mono ?_; rintro e w1 ⟨rfl, rfl⟩))
      go_ret
      exact ⟨rfl, HB.out _⟩
  · have : L1.inB kd 1 3 = false := L1.inB_false.2 (by omega)
    rw [HE, this]
    clear HE hct hc0 hx1 hx2 this
    replace hk1 : ¬ kd = 1 := hk1
    replace hk2 : ¬ kd = 2 := hk2
    replace hk3 : ¬ kd = 3 := hk3
    go_enter Try.func118, Try.ntmps118
    go_wp2_with fail
    go_ret
    exact ⟨by simp, HB.out _⟩
end Go.Proofs.Ytmnedjhfibmcnaa.L4

/-
  The contracts of encodeNumber and EncodeKey of the program. Conditions: a text of at most 2^40 bytes.
-/
namespace Go.Proofs.Ytmnedjhfibmcnaa.L4
open Go.Op (bytesLess)
open Go.ChangeShapes Go.WideShapes Go.ChangeAt Go.RowKit Mem Sl Ex L2
set_option maxRecDepth 100000
set_option linter.unusedVariables false

def numCells (m : Nat) : Array Value := #[.int .u8 ((m / 1099511627776 % 256 : Nat) : Int), .int .u8 ((m / 4294967296 % 256 : Nat) : Int), .int .u8 ((m / 16777216 % 256 : Nat) : Int), .int .u8 ((m / 65536 % 256 : Nat) : Int), .int .u8 ((m / 256 % 256 : Nat) : Int), .int .u8 ((m / 1 % 256 : Nat) : Int)]

set_option maxHeartbeats 2000000 in
theorem encodeNumber_any (n : Int) (m : Nat) (hm : (m : Int) = n + 1000000000000) (h1 : n ≤ 1000000000000) (w : World) :
    Calls Try.prog 122 #[.int .i64 n] w fun e w' => e = .returned (.agg (numCells m)) ∧ Below w.heap.size w w' := by
  obtain ⟨M, hM⟩ : ∃ M : Int, M = n + 1000000000000 := ⟨_, rfl⟩
  have hM0 : 0 ≤ M := by omega
  have hM1 : M ≤ 2000000000000 := by omega
  go_enter Try.func122, Try.ntmps122
  go_wp2
  refine wp_loop_rounds 7 ?_
  iterate 7 (rw [rounds_succ]; go_wp2)
  refine bodyPost_ret (v := .agg _) (by simp [results, Try.results122, go_sem]; rfl) rfl ?_
  refine ⟨?_, below_alloc (below_alloc (Below.refl _ _) _ (Nat.le_refl _)) _ (Nat.le_refl _)⟩
  have e0 : (n + 1000000000000) / 256 / 256 / 256 / 256 / 256 = ((m / 1099511627776 % 256 : Nat) : Int) := by omega
  have e1 : (n + 1000000000000) / 256 / 256 / 256 / 256 % 256 = ((m / 4294967296 % 256 : Nat) : Int) := by omega
  have e2 : (n + 1000000000000) / 256 / 256 / 256 % 256 = ((m / 16777216 % 256 : Nat) : Int) := by omega
  have e3 : (n + 1000000000000) / 256 / 256 % 256 = ((m / 65536 % 256 : Nat) : Int) := by omega
  have e4 : (n + 1000000000000) / 256 % 256 = ((m / 256 % 256 : Nat) : Int) := by omega
  have e5 : (n + 1000000000000) % 256 = ((m / 1 % 256 : Nat) : Int) := by omega
  rw [e0, e1, e2, e3, e4, e5]
  rfl

theorem numCells_form (m : Nat) : ∃ x0 x1 x2 x3 x4 x5 : Int, numCells m = #[.int .u8 x0, .int .u8 x1, .int .u8 x2, .int .u8 x3, .int .u8 x4, .int .u8 x5] ∧ toI (be 6 m) = [x0, x1, x2, x3, x4, x5] := by
  refine ⟨_, _, _, _, _, _, rfl, ?_⟩
  simp only [be, toI, List.map_cons, List.map_nil, UInt8.toNat_ofNat', show (256 ^ 5 : Nat) = 1099511627776 from rfl, show (256 ^ 4 : Nat) = 4294967296 from rfl, show (256 ^ 3 : Nat) = 16777216 from rfl, show (256 ^ 2 : Nat) = 65536 from rfl, show (256 ^ 1 : Nat) = 256 from rfl, show (256 ^ 0 : Nat) = 1 from rfl, Nat.mod_mod]
theorem reads_row {w : World} {g : Nat} {t : TypeId} {k : IntKind} {l : List Int} (h : Row w g t (ints k l).toArray) : Reads w w.heap.size (some ⟨g, 0, none⟩) (ints k l) := fun j hj => by
  refine ⟨_, rfl, by simpa [add_block] using h.inside, ?_⟩
  rw [Addr.add_lit, h.cell]
  simp [List.getElem?_eq_getElem hj]

section
variable {P : Program} (w : World)
theorem wpList_append_str {ops : Array Oper} {rest : List Oper} {o : Oper} {act : Act} {Q : Exit → Act → World → Prop} (hgd : o.guard = none) (sl x : Operand) (t u : TypeId)
    (ho : o.op = .call { callee := .builtin .append, args := #[sl, x], argTypes := #[t, u] })
    (B : Nat) (e : TypeId) (i : TypeInfo) (ht : P.underlying t = some (.slice e)) (hu : P.underlying u = some .string) (hi : P.info? e = some i) (hz : i.zero = some (.int .u8 0))
    (hsize : i.size = 1) (hby : i.bytes = 1) (a : Option Addr) (n c : Nat) (l : List Int) (hs : act.eval sl = .slice a n c) (hn : n = l.length) (hown : Own w B e .u8 a c l) (s : ByteArray) (hx : act.eval x = .string s)
    (h63 : l.length + s.size ≤ maxLen) (hbytes : l.length + s.size ≤ 140737488355328) (hbase : B ≤ w.heap.size)
    (h : ∀ a1 c1 w', Own w' B e .u8 a1 c1 (l ++ L3.strB s) → w.grownBy w' (Value.slice a l.length c).ownBlock → wpList P ops Q rest (act.put o.dst (.slice a1 (l.length + s.size) c1)) w') : wpList P ops Q (o :: rest) act w := by
  subst hn
  have hsc : ints .u8 l ++ Lib.strCells s = ints .u8 (l ++ L3.strB s) := by
    rw [ints_append]
    congr 1
    unfold Lib.strCells ints L3.strB
    rw [List.map_map]
    rfl
  refine Lib.wpList_append_own_string w hgd sl x t u ho B e i ht hu hi hz hsize hby _ l.length (ints .u8 l) hs hown s hx h63 hbytes hbase ?_
  intro v' w' h2 h3 _
  rw [hsc] at h2
  rcases h2.2 with ⟨rfl, hn⟩ | ⟨g, cap, cur, rfl, _⟩
  · have h0 : Own w' B e .u8 none 0 (l ++ L3.strB s) := by
      unfold Own
      rw [List.length_append, L3.strB_length, hn]
      rw [hn] at h2
      exact h2
    have := h none 0 w' h0 h3
    rw [hn] at this
    exact this
  · refine h _ cap w' ?_ h3
    unfold Own
    rw [List.length_append, L3.strB_length]
    exact h2
end

set_option maxHeartbeats 2000000 in
theorem implEncodeKey_any (k : K) (hs : k.text.size ≤ 1099511627776) (w : World) :
    Calls Try.prog 78 #[k.v] w (Gave w w.heap.size 5 .u8 (toI (encU k))) := by
  obtain ⟨i0, hi, hz0, hz1, hz2⟩ := infoOf _ _ _ _ info8
  obtain ⟨w2, hw2⟩ : ∃ w2, w2 = w.alloc (.cells k.cells 28) := ⟨_, rfl⟩
  have ba : Box w2 w.heap.size 28 k := by rw [hw2]; exact Box.made w _ k
  have hbl : Below w.heap.size w w2 := by rw [hw2]; exact below_alloc (Below.refl _ _) _ (Nat.le_refl _)
  have H1 := Lib.hid (fun w => implIsKey_any k (by omega) w)
  obtain ⟨ia, hia⟩ : ∃ x, isK k = x := ⟨_, rfl⟩
  rw [hia] at H1
  obtain ⟨kd, n, s⟩ := k
  simp only [K.v, K.cells] at H1 hw2 hs ⊢
  go_enter Try.func78, Try.ntmps78
  go_wp2_with fail
  go_at_call 118
  rw [← hw2]
  refine (H1.out w2).mono ?_
  rintro e w3 ⟨rfl, h3⟩
  have BA := Lib.hid (And.intro (ba.below h3) (hbl.trans (h3.mono hbl.size)))
  have hsz : w.heap.size + 1 ≤ w3.heap.size := by have := h3.size; rw [hw2] at this; simpa using this
  clear hw2 ba hbl h3 H1
  cases ia with
  | false =>
    have HE := Lib.hid (show toI (encU ⟨kd, n, s⟩) = [] by unfold encU; rw [hia]; rfl)
    go_wp2_with fail
    go_ret
    rw [HE.out]
    exact Gave.mk rfl (Own.empty w3 5 .u8 BA.out.2.size) (below_alloc BA.out.2 _ (Nat.le_refl _))
  | true =>
    have g := isK_iff.1 hia
    have k0 : 1 ≤ kd := g.k0
    have k1 : kd ≤ 3 := g.k1
    have n0 : -1000000000000 ≤ n := g.n0
    have n1 : n ≤ 1000000000000 := g.n1
    obtain ⟨b0, b1, b2⟩ := BA.out.1.facts
    obtain ⟨d0, d1, d2⟩ := (BA.out.1.more (.cells #[.int .u8 kd] 5)).facts
    have H3 := Lib.hid (And.intro (L3.own_lit w3 5 .u8 [kd] hsz (by simp [maxLen])) (below_alloc (Below.refl (w.heap.size + 1) w3) (.cells #[.int .u8 kd] 5) hsz))
    obtain ⟨m, hm⟩ : ∃ m : Nat, (m : Int) = n + 1000000000000 := ⟨(n + 1000000000000).toNat, by omega⟩
    have HM := Lib.hid hm
    clear hm
    by_cases hk : kd = 2
    · subst hk
      have HE := Lib.hid (show toI (encU ⟨2, n, s⟩) = [2] ++ L3.strB s by rw [encU_good hia]; rfl)
      go_wp2_with (at_builtin; refine wpList_append_str _ rfl _ _ 22 9 rfl (w.heap.size + 1) 5 i0 Try.underlying22 Try.underlying9 hi hz0 hz1 hz2 _ _ _ ([2]) rfl rfl H3.out.1 s rfl (by unfold maxLen; simp; omega) (by simp; omega) (Nat.le_trans hsz (by simp)) ?_; intro a9 c9 w9 ho9 hg9)
      go_ret
      rw [HE.out]
      refine Gave.mk (by simp [L3.strB_length]; omega) (ho9.base (Nat.le_succ _)) ?_
      have q2 := BA.out.2.trans (H3.out.2.mono (Nat.le_succ _))
      exact q2.trans ((below_own H3.out.1 hg9 (Nat.le_trans hsz H3.out.2.size)).mono (Nat.le_succ _))
    · have HE := Lib.hid (show toI (encU ⟨kd, n, s⟩) = (kd :: toI (be 6 m)) ++ L3.strB s by
        rw [encU_good hia]
        have e1 : num6 ⟨kd, n, s⟩ = be 6 m := by unfold num6; rw [if_neg hk, ← HM.out]; rfl
        rw [e1]
        simp only [toI, List.map_cons, List.map_append, UInt8.toNat_ofNat', List.cons_append]
        congr 1
        show (((kd.toNat % 2 ^ 8 : Nat)) : Int) = kd
        omega)
      obtain ⟨w4, hw4⟩ : ∃ x, x = w3.alloc (.cells #[.int .u8 kd] 5) := ⟨_, rfl⟩
      have o4 : Own w4 (w.heap.size + 1) 5 .u8 (some ⟨w3.heap.size, 0, none⟩) 1 [kd] := by rw [hw4]; exact H3.out.1
      have b4 : Below (w.heap.size + 1) w3 w4 := by rw [hw4]; exact H3.out.2
      have bx4 : Box w4 w.heap.size 28 ⟨kd, n, s⟩ := by rw [hw4]; exact BA.out.1.more _
      have HN := Lib.hid (encodeNumber_any n m HM.out n1)
      go_wp2_with fail
      go_at_call 122
      rw [← hw4]
      clear hw4 b0 b1 b2 d0 d1 d2
      refine (HN.out w4).mono ?_
      rintro e w5 ⟨rfl, h5⟩
      obtain ⟨x0, x1, x2, x3, x4, x5, hnc, hnl⟩ := numCells_form m
      rw [hnc]
      have hsz4 : w.heap.size + 1 ≤ w4.heap.size := Nat.le_trans hsz b4.size
      have q5 := b4.trans (h5.mono hsz4)
      have R6 : Row (w5.alloc (.cells #[.int .u8 x0, .int .u8 x1, .int .u8 x2, .int .u8 x3, .int .u8 x4, .int .u8 x5] 141)) w5.heap.size 141 (ints .u8 (toI (be 6 m))).toArray := by
        rw [hnl]
        exact Row.made w5 _ _
      have r6 := reads_row R6
      have bx6 := (bx4.below h5).more (.cells #[.int .u8 x0, .int .u8 x1, .int .u8 x2, .int .u8 x3, .int .u8 x4, .int .u8 x5] 141)
      have o6 := own_alloc (o4.below h5) (.cells #[.int .u8 x0, .int .u8 x1, .int .u8 x2, .int .u8 x3, .int .u8 x4, .int .u8 x5] 141)
      have hsz5 : w.heap.size + 1 ≤ w5.heap.size := Nat.le_trans hsz4 h5.size
      have q6 := below_alloc q5 (.cells #[.int .u8 x0, .int .u8 x1, .int .u8 x2, .int .u8 x3, .int .u8 x4, .int .u8 x5] 141) hsz
      have hsz6 : w.heap.size + 1 ≤ (w5.alloc (.cells #[.int .u8 x0, .int .u8 x1, .int .u8 x2, .int .u8 x3, .int .u8 x4, .int .u8 x5] 141)).heap.size := Nat.le_trans hsz5 (by simp)
      have S := Lib.hid (And.intro r6 (And.intro bx6 (And.intro o6 (And.intro hsz6 q6))))
      clear R6 r6 bx6 o6 hsz6 q6 q5 h5 o4 b4 bx4 hnc hnl H3 hsz4 hsz5
      have hszw := hsz
      go_wp2_with (first
        | (at_builtin; refine wpList_append_src _ rfl _ _ 22 rfl (w.heap.size + 1) 5 i0 (.int .u8 0) 1 Try.underlying22 hi hz0 hz1 hz2 rfl .u8 _ _ _ ([kd]) rfl rfl S.out.2.2.1 _ _ _ _ (toI (be 6 m)) rfl (by simp) S.out.1 (by simp [maxLen]) (by simp) S.out.2.2.2.1 ?_; intro a7 c7 w7 ho7 hg7; have q7 := S.out.2.2.2.2.trans (below_own S.out.2.2.1 hg7 S.out.2.2.2.1); have bx7 := Row.below S.out.2.1 (below_own S.out.2.2.1 hg7 S.out.2.2.2.1) (Nat.lt_succ_self _); obtain ⟨b0, b1, b2⟩ := Box.facts bx7)
        | (at_builtin; refine wpList_append_str _ rfl _ _ 22 9 rfl (w.heap.size + 1) 5 i0 Try.underlying22 Try.underlying9 hi hz0 hz1 hz2 _ 7 _ (kd :: toI (be 6 m)) rfl (by simp) ho7 s rfl (by unfold maxLen; simp; omega) (by simp; omega) (Nat.le_trans hszw q7.size) ?_; intro a9 c9 w9 ho9 hg9))
      go_ret
      rw [HE.out]
      refine Gave.mk (by simp [L3.strB_length]; omega) (ho9.base (Nat.le_succ _)) ?_
      have q2 := BA.out.2.trans (q7.mono (Nat.le_succ _))
      exact q2.trans ((below_own ho7 hg9 (Nat.le_trans hszw q7.size)).mono (Nat.le_succ _))
end Go.Proofs.Ytmnedjhfibmcnaa.L4

/-
  Arrays of six bytes, compared. No condition.
-/
namespace Go.Proofs.Ytmnedjhfibmcnaa.L4
set_option maxRecDepth 100000
open Go.ChangeShapes Go.WideShapes Go.ChangeAt Go.RowKit Mem Sl Ex L2
set_option maxHeartbeats 2000000 in
theorem array_eq (x0 x1 x2 x3 x4 x5 y0 y1 y2 y3 y4 y5 : Int) (w : World) :
    (Op.equalIn 10000 141 (.agg #[.int .u8 x0, .int .u8 x1, .int .u8 x2, .int .u8 x3, .int .u8 x4, .int .u8 x5]) (.agg #[.int .u8 y0, .int .u8 y1, .int .u8 y2, .int .u8 y3, .int .u8 y4, .int .u8 y5])).run Try.prog w = .ok (decide ([x0, x1, x2, x3, x4, x5] = [y0, y1, y2, y3, y4, y5])) w := by
  obtain ⟨i0, hi, hz0, hz1, hz2⟩ := infoOf _ _ _ _ info8
  have hu : Try.prog.underlying 141 = some (.array 6 5) := Try.underlying141
  rw [show (10000 : Nat) = 9998 + 1 + 1 from rfl, run_equalIn_array w (9998 + 1) _ _ hu hi, show List.range 6 = [0, 1, 2, 3, 4, 5] from rfl, show Try.prog.cellsOf 5 = 1 by kernel_rfl]
  have he : ∀ (a b : Int) (w : World), (Op.equalIn (9998 + 1) 5 (.int .u8 a) (.int .u8 b)).run Try.prog w = .ok (a == b) w := fun a b w => run_equalIn_int w 9998 5 .u8 .u8 a b Try.underlying5
  simp [Op.eqItems, he, go_sem]
  (repeat' split) <;> simp_all
end Go.Proofs.Ytmnedjhfibmcnaa.L4

