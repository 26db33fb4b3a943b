/-
  What the law FnIndexes needs, laid by my program lawpack.py, part 3: the texts L6Se, L6Sf, L6Sg, L6Sx, L7Num, L7Fin, L6Dm, Sd9, L5Ia, L5Ib, L5Is, L5Gm, L5Iq, Sd5, L5Dec, one behind the other; each begins with its own words.
-/
import Derived.Test.YtmnedjhfibmcnaaFnIndexesP2
set_option linter.unusedSimpArgs false
/-
  The contract of chapter 6's PutItem of the specification. Conditions: keys' texts of at most 2^40 bytes, at most 2^20 fields and items. (Written by my program gen_l6e.py.)
-/
namespace Go.Proofs.Ytmnedjhfibmcnaa.L6
set_option maxRecDepth 100000
open L4 (K isK cmpK R inR encU)
open L5 (F isR isN cellsF encR eqR Small)
open Go.ChangeShapes Go.WideShapes Go.ChangeAt Go.RowKit Mem Sl Ex L2 Sv Bag
set_option linter.unusedVariables false
set_option linter.unusedSimpArgs false

theorem cellsI_set3 : ∀ (xs : List LI) (i : Nat) (hi : i < xs.length) (a : Option Addr) (c : Nat) (l : List F), (cellsI xs).set (i * 4 + 3) (.slice a l.length c) = cellsI (xs.set i ⟨xs[i].k, a, c, l⟩)
  | x :: xs, 0, _, a, c, l => rfl
  | x :: xs, i + 1, h, a, c, l => by
    rw [List.set_cons_succ, cellsI_cons, cellsI_cons, List.getElem_cons_succ, ← cellsI_set3 xs i (by simpa using h) a c l, show (i + 1) * 4 + 3 = i * 4 + 3 + 1 + 1 + 1 + 1 by omega]
    rfl
theorem cellsI_set3m (xs : List LI) (i : Nat) (hi : i < xs.length) (a : Option Addr) (c : Nat) (l : List F) (M : Nat) (hM : M = l.length) : (cellsI xs).set (i * 4 + 3) (.slice a M c) = cellsI (xs.set i ⟨xs[i].k, a, c, l⟩) := by
  subst hM
  exact cellsI_set3 xs i hi a c l
theorem bag_swap {W w : World} {rs : List Res} {xs : List RowS} {z : RowS} (h : Sep W w rs) (j : Nat) (hj : rs[j]? = some (bag (xs ++ [z]))) (i : Nat) (hi : i < xs.length) : Sep W w (rs.set j (bag (xs.set i z))) := by
  have e1 : xs.set i z = xs.take i ++ z :: xs.drop (i + 1) := List.set_eq_take_append_cons_drop ▸ by rw [if_pos hi]
  have e2 : xs.eraseIdx i = xs.take i ++ xs.drop (i + 1) := List.eraseIdx_eq_take_drop_succ ..
  have hp : (xs.eraseIdx i ++ [z]).Perm (xs.set i z) := by
    rw [e1, e2, List.append_assoc]
    refine List.Perm.append_left _ ?_
    exact List.perm_append_comm
  have hs : (xs.eraseIdx i ++ [z]).Sublist (xs ++ [z]) := (List.eraseIdx_sublist xs i).append (List.Sublist.refl _)
  refine turn h j hj (fun ho => (BagOwn.sub ho hs).perm hp) (fun b hb => ?_)
  obtain ⟨r, hr, hm⟩ := List.mem_flatMap.1 hb
  exact List.mem_flatMap.2 ⟨r, hs.subset (hp.mem_iff.2 hr), hm⟩
theorem rowsI_ins (ys : List LI) (k : Nat) (z : LI) : (rowsI ys ++ [z.row]).Perm (rowsI (ys.take k ++ z :: ys.drop k)) := by
  have e : rowsI ys = rowsI (ys.take k) ++ rowsI (ys.drop k) := by rw [← rowsI_append, List.take_append_drop]
  rw [e, rowsI_append, List.append_assoc]
  exact List.Perm.append_left _ List.perm_append_comm
theorem cellsI_take : ∀ (ys : List LI) (k : Nat), (cellsI ys).take (k * 4) = cellsI (ys.take k)
  | [], k => by simp [cellsI]
  | y :: ys, 0 => by simp [cellsI]
  | y :: ys, k + 1 => by
    rw [List.take_succ_cons, cellsI_cons, cellsI_cons, ← cellsI_take ys k, show (k + 1) * 4 = k * 4 + 1 + 1 + 1 + 1 by omega]
    rfl
theorem cellsI_drop : ∀ (ys : List LI) (k : Nat), (cellsI ys).drop (k * 4) = cellsI (ys.drop k)
  | [], k => by simp [cellsI]
  | y :: ys, 0 => by simp
  | y :: ys, k + 1 => by
    rw [List.drop_succ_cons, cellsI_cons, ← cellsI_drop ys k, show (k + 1) * 4 = k * 4 + 1 + 1 + 1 + 1 by omega]
    rfl
theorem reads_head {w : World} {B : Nat} {a : Option Addr} {ys : List LI} (h : Reads w B a (cellsI ys)) (k : Nat) : Reads w B a (cellsI (ys.take k)) := fun j hj => by
  have hk : cellsI (ys.take k) = (cellsI ys).take (k * 4) := (cellsI_take ys k).symm
  have h2 : (cellsI (ys.take k))[j] = ((cellsI ys).take (k * 4))[j]'(by rw [← hk]; exact hj) := by simp only [hk]
  have h3 : j < (cellsI ys).length := by rw [hk, List.length_take] at hj; omega
  obtain ⟨ad, e, hb, hc⟩ := h j h3
  exact ⟨ad, e, hb, by rw [hc, h2, List.getElem_take]⟩
theorem reads_tail {w : World} {B : Nat} {ad : Addr} {ys : List LI} (h : Reads w B (some ad) (cellsI ys)) (k : Nat) : Reads w B (some (ad.add (k * 4))) (cellsI (ys.drop k)) := fun j hj => by
  have hk : cellsI (ys.drop k) = (cellsI ys).drop (k * 4) := (cellsI_drop ys k).symm
  have h2 : (cellsI (ys.drop k))[j] = ((cellsI ys).drop (k * 4))[j]'(by rw [← hk]; exact hj) := by simp only [hk]
  have h3 : k * 4 + j < (cellsI ys).length := by rw [hk, List.length_drop] at hj; omega
  obtain ⟨ad', e, hb, hc⟩ := h (k * 4 + j) h3
  injection e with e
  subst e
  exact ⟨ad.add (k * 4), rfl, by rw [add_block]; exact hb, by rw [add_add, hc, h2, List.getElem_drop]⟩
theorem reads_rest2 {w : World} {B g : Nat} {ys : List LI} (h : Reads w B (some ⟨g, 0, none⟩) (cellsI ys)) (k : Nat) : Reads w B (some ⟨g, k * 4, none⟩) (cellsI (ys.drop k)) := by
  have := reads_tail h k
  rwa [Addr.add_lit, Nat.zero_add] at this
theorem rowsI_set (xs : List LI) (i : Nat) (z : LI) : rowsI (xs.set i z) = (rowsI xs).set i z.row := List.map_set
theorem conI_ins (ys : List LI) (k : Nat) (z : LI) : conI (ys.take k ++ z :: ys.drop k) = (conI ys).take k ++ z.con :: (conI ys).drop k := by
  unfold conI
  rw [List.map_append, List.map_cons, List.map_take, List.map_drop]
theorem conI_set (xs : List LI) (i : Nat) (z : LI) : conI (xs.set i z) = (conI xs).set i z.con := List.map_set

set_option maxHeartbeats 16000000 in
theorem specPutItem_any (y : LS) (k0 : K) (ra : Option Addr) (rc : Nat) (rl : List F) (hf : FitS y.con) (hkt : k0.text.size ≤ 1099511627776) (hrl : rl.length ≤ 1048576) (hrs : Small rl) (w : World) (hr : RowsRd w w.heap.size y.rows) (hrr : Reads w w.heap.size ra (cellsF rl)) :
    Calls Try.prog 134 #[y.v, k0.v, .agg #[.slice ra rl.length rc]] w (GaveSB w (putI y.con k0 rl).1 (putI y.con k0 rl).2) := by
  obtain ⟨i0, hi1, hi2, hi3, hi4⟩ := itemInfo
  have HI := Lib.hid (And.intro hi1 (And.intro hi2 (And.intro hi3 hi4)))
  clear hi1 hi2 hi3 hi4
  obtain ⟨pk, pn, pt⟩ := k0
  unfold L4.K.v
  try dsimp only at hkt ⊢
  have HIS := Lib.hid (fun w' (h : Below w.heap.size w w') => specIsStore_any y hf w' ((hr.below h).more h.size))
  have HCP := Lib.hid (fun w' (h : Below w.heap.size w w') => l6Copy_any y hf w' ((hr.below h).more h.size))
  have HFD := Lib.hid (fun w' (h : Below w.heap.size w w') => specFindItem_any y ⟨pk, pn, pt⟩ hf w' ((hr.below h).more h.size))
  have HRC := Lib.hid (fun w' (h : Below w.heap.size w w') => L5.l5Copy_any ra rc rl (by omega) w' ((hrr.below h).more h.size))
  have HIR := Lib.hid (fun w' (h : Below w.heap.size w w') => L5.specIsRecord_any ra rc rl (by omega) hrs w' ((hrr.below h).more h.size))
  have HIK := Lib.hid (fun w' => L4.specIsKey_any ⟨pk, pn, pt⟩ (by show pt.size ≤ _; omega) w')
  obtain ⟨name, a, c, xs, auto⟩ := y
  have HR := Lib.hid (fun w' (h : Below w.heap.size w w') => LS.outer (hr.below h))
  have HX := Lib.hid (fun w' (h : Below w.heap.size w w') => (LS.inner (hr.below h)).more h.size)
  have HF := Lib.hid hf.items
  have HNM := Lib.hid hf.name
  have hl := hf.len
  simp only [LS.con, conI_length] at hl
  dsimp only [LS.con] at HR HX HF HNM
  try unfold LS.v LS.cells LS.con
  try dsimp only
  obtain ⟨N, hN⟩ : ∃ n, n = xs.length := ⟨_, rfl⟩
  rw [← hN] at hl ⊢
  have hl' : (N : Int) ≤ 1048576 := by omega
  have HN := Lib.hid hN
  clear hN hr hf
  dsimp only [LS.v, LS.cells, LS.con] at HIS HCP HFD
  rw [← HN.out] at HIS HCP HFD
  obtain ⟨M, hM⟩ : ∃ M, M = rl.length := ⟨_, rfl⟩
  rw [← hM] at HRC HIR ⊢
  have HM := Lib.hid hM
  clear hM hrr
  obtain ⟨bs, hbs⟩ : ∃ b, isS ⟨name, conI xs, auto⟩ = b := ⟨_, rfl⟩
  obtain ⟨bk, hbk⟩ : ∃ b, isK ⟨pk, pn, pt⟩ = b := ⟨_, rfl⟩
  obtain ⟨br, hbr⟩ : ∃ b, isR rl = b := ⟨_, rfl⟩
  rw [hbs] at HIS
  rw [hbk] at HIK
  rw [hbr] at HIR
  obtain ⟨res, hres⟩ : ∃ r, putI ⟨name, conI xs, auto⟩ ⟨pk, pn, pt⟩ rl = r := ⟨_, rfl⟩
  rw [hres]
  have HBS := Lib.hid hbs
  have HP := Lib.hid (show res = if bs && (bk && br) then (match fndO (conI xs) ⟨pk, pn, pt⟩ with | some i => (⟨name, (conI xs).set i ⟨⟨pk, pn, pt⟩, rl⟩, auto⟩, true) | none => if 16 ≤ (conI xs).length then (⟨name, conI xs, auto⟩, false) else (⟨name, (conI xs).take (posI (conI xs) ⟨pk, pn, pt⟩) ++ ⟨⟨pk, pn, pt⟩, rl⟩ :: (conI xs).drop (posI (conI xs) ⟨pk, pn, pt⟩), nextAuto auto ⟨pk, pn, pt⟩⟩, true)) else (⟨name, conI xs, auto⟩, false) from by rw [← hres]; unfold putI; rw [hbs, hbk, hbr]; rfl)
  clear hres hbs hbk hbr
  have S1 := Lib.hid (show Sl.Sep w ((((w.alloc (.cells #[.string name, .slice a N c, .int .i64 auto] 26)).alloc (.cells #[.int .i64 pk, .int .i64 pn, .string pt] 28)).alloc (.cells #[.slice ra M rc] 41)).alloc (.cells #[.string ⟨#[]⟩, .slice none 0 0, .int .i64 0] 26)) [L4.boxR w.heap.size 26 #[.string name, .slice a N c, .int .i64 auto], L4.boxR (w.heap.size + 1) 28 #[.int .i64 pk, .int .i64 pn, .string pt], L4.boxR (w.heap.size + 1 + 1) 41 #[.slice ra M rc], L4.boxR (w.heap.size + 1 + 1 + 1) 26 #[.string ⟨#[]⟩, .slice none 0 0, .int .i64 0]] from L4.push_box (L4.push_box (L4.push_box (L4.push_box (Sl.Sep.start w) 26 #[.string name, .slice a N c, .int .i64 auto] (w.heap.size) (by simp)) 28 #[.int .i64 pk, .int .i64 pn, .string pt] (w.heap.size + 1) (by simp)) 41 #[.slice ra M rc] (w.heap.size + 1 + 1) (by simp)) 26 #[.string ⟨#[]⟩, .slice none 0 0, .int .i64 0] (w.heap.size + 1 + 1 + 1) (by simp))
  obtain ⟨wa, hwa⟩ : ∃ u, u = ((((w.alloc (.cells #[.string name, .slice a N c, .int .i64 auto] 26)).alloc (.cells #[.int .i64 pk, .int .i64 pn, .string pt] 28)).alloc (.cells #[.slice ra M rc] 41)).alloc (.cells #[.string ⟨#[]⟩, .slice none 0 0, .int .i64 0] 26)) := ⟨_, rfl⟩
  rw [← hwa] at S1
  go_enter Try.func134, Try.ntmps134
  go_upto_region 1 with fail
  rw [← hwa]
  clear hwa
  have hh := Bag.cs3 S1.out 0 rfl
  have f0 := hh.1; have f1 := hh.2.1; have f2 := hh.2.2; clear hh
  have hh := Bag.cs3 S1.out 1 rfl
  have f3 := hh.1; have f4 := hh.2.1; have f5 := hh.2.2; clear hh
  have f6 := Bag.cs1 S1.out 2 rfl
  have hh := Bag.cs3 S1.out 3 rfl
  have f7 := hh.1; have f8 := hh.2.1; have f9 := hh.2.2; clear hh
  go_wp2_with fail
  go_at_call 17
  refine (HIS.out _ S1.out.old).mono ?_
  rintro e w1 ⟨rfl, hb⟩
  clear f0 f1 f2 f3 f4 f5 f6 f7 f8 f9
  have S2 := Lib.hid (S1.out.keep hb)
  clear S1
  clear hb
  have hh := Bag.cs3 S2.out 0 rfl
  have f0 := hh.1; have f1 := hh.2.1; have f2 := hh.2.2; clear hh
  have hh := Bag.cs3 S2.out 1 rfl
  have f3 := hh.1; have f4 := hh.2.1; have f5 := hh.2.2; clear hh
  have f6 := Bag.cs1 S2.out 2 rfl
  have hh := Bag.cs3 S2.out 3 rfl
  have f7 := hh.1; have f8 := hh.2.1; have f9 := hh.2.2; clear hh
  cases bs with
  | false =>
    go_wp2_with fail
    go_at_call 139
    refine (HCP.out _ S2.out.old).mono ?_
    rintro e w2 ⟨⟨nm3, a3, c3, ys, au3⟩, rfl, hcon, ho, hb⟩
    clear f0 f1 f2 f3 f4 f5 f6 f7 f8 f9
    have S3 := Lib.hid (show Sl.Sep w _ [L4.boxR w.heap.size 26 #[.string name, .slice a N c, .int .i64 auto], L4.boxR (w.heap.size + 1) 28 #[.int .i64 pk, .int .i64 pn, .string pt], L4.boxR (w.heap.size + 1 + 1) 41 #[.slice ra M rc], L4.boxR (w.heap.size + 1 + 1 + 1) 26 #[.string ⟨#[]⟩, .slice none 0 0, .int .i64 0], Bag.bag ((LS.mk nm3 a3 c3 ys au3).rows)] from Bag.push_bag S2.out hb ho)
    clear S2
    clear hb ho
    have HCON := Lib.hid hcon
    clear hcon
    simp only [LS.v, LS.cells]
    have hh := Bag.cs3 S3.out 3 rfl
    have f0 := hh.1; have f1 := hh.2.1; have f2 := hh.2.2; clear hh
    have hh := Bag.fs3 S3.out 3 rfl
    have z0 := hh.1; have z1 := hh.2.1; have z2 := hh.2.2; clear hh
    go_wp2_with fail
    clear f0 f1 f2 z0 z1 z2
    have S4 := Lib.hid (show Sl.Sep w _ [L4.boxR w.heap.size 26 #[.string name, .slice a N c, .int .i64 auto], L4.boxR (w.heap.size + 1) 28 #[.int .i64 pk, .int .i64 pn, .string pt], L4.boxR (w.heap.size + 1 + 1) 41 #[.slice ra M rc], L4.boxR (w.heap.size + 1 + 1 + 1) 26 #[.string nm3, .slice a3 ys.length c3, .int .i64 au3], Bag.bag ((LS.mk nm3 a3 c3 ys au3).rows)] from L5.put_box5 (L5.put_box5 (L5.put_box5 (S3.out) 3 rfl 0 (.string nm3)) 3 rfl 1 (.slice a3 ys.length c3)) 3 rfl 2 (.int .i64 au3))
    clear S3
    have hh := Bag.cs3 S4.out 3 rfl
    have f0 := hh.1; have f1 := hh.2.1; have f2 := hh.2.2; clear hh
    refine bodyPost_ret (v := .tuple #[.agg #[.string nm3, .slice a3 ys.length c3, .int .i64 au3], .bool false]) (by simp [results, Try.results134, go_sem, *]) rfl ?_
    have HE := Lib.hid (show res = (⟨name, conI xs, auto⟩, false) from by rw [HP.out]; rfl)
    exact ⟨⟨nm3, a3, c3, ys, au3⟩, by rw [HE.out]; rfl, by rw [HE.out]; exact HCON.out, Bag.bag_from S4.out 4 rfl, S4.out.old⟩
  | true =>
    go_wp2_with fail
    go_at_call 68
    refine (HIK.out _).mono ?_
    rintro e w2 ⟨rfl, hb⟩
    clear f0 f1 f2 f3 f4 f5 f6 f7 f8 f9
    have S3 := Lib.hid (S2.out.keep hb)
    clear S2
    clear hb
    have hh := Bag.cs3 S3.out 0 rfl
    have f0 := hh.1; have f1 := hh.2.1; have f2 := hh.2.2; clear hh
    have hh := Bag.cs3 S3.out 1 rfl
    have f3 := hh.1; have f4 := hh.2.1; have f5 := hh.2.2; clear hh
    have f6 := Bag.cs1 S3.out 2 rfl
    have hh := Bag.cs3 S3.out 3 rfl
    have f7 := hh.1; have f8 := hh.2.1; have f9 := hh.2.2; clear hh
    cases bk with
    | false =>
      go_wp2_with fail
      go_at_call 139
      refine (HCP.out _ S3.out.old).mono ?_
      rintro e w3 ⟨⟨nm3, a3, c3, ys, au3⟩, rfl, hcon, ho, hb⟩
      clear f0 f1 f2 f3 f4 f5 f6 f7 f8 f9
      have S4 := Lib.hid (show Sl.Sep w _ [L4.boxR w.heap.size 26 #[.string name, .slice a N c, .int .i64 auto], L4.boxR (w.heap.size + 1) 28 #[.int .i64 pk, .int .i64 pn, .string pt], L4.boxR (w.heap.size + 1 + 1) 41 #[.slice ra M rc], L4.boxR (w.heap.size + 1 + 1 + 1) 26 #[.string ⟨#[]⟩, .slice none 0 0, .int .i64 0], Bag.bag ((LS.mk nm3 a3 c3 ys au3).rows)] from Bag.push_bag S3.out hb ho)
      clear S3
      clear hb ho
      have HCON := Lib.hid hcon
      clear hcon
      simp only [LS.v, LS.cells]
      have hh := Bag.cs3 S4.out 3 rfl
      have f0 := hh.1; have f1 := hh.2.1; have f2 := hh.2.2; clear hh
      have hh := Bag.fs3 S4.out 3 rfl
      have z0 := hh.1; have z1 := hh.2.1; have z2 := hh.2.2; clear hh
      go_wp2_with fail
      clear f0 f1 f2 z0 z1 z2
      have S5 := Lib.hid (show Sl.Sep w _ [L4.boxR w.heap.size 26 #[.string name, .slice a N c, .int .i64 auto], L4.boxR (w.heap.size + 1) 28 #[.int .i64 pk, .int .i64 pn, .string pt], L4.boxR (w.heap.size + 1 + 1) 41 #[.slice ra M rc], L4.boxR (w.heap.size + 1 + 1 + 1) 26 #[.string nm3, .slice a3 ys.length c3, .int .i64 au3], Bag.bag ((LS.mk nm3 a3 c3 ys au3).rows)] from L5.put_box5 (L5.put_box5 (L5.put_box5 (S4.out) 3 rfl 0 (.string nm3)) 3 rfl 1 (.slice a3 ys.length c3)) 3 rfl 2 (.int .i64 au3))
      clear S4
      have hh := Bag.cs3 S5.out 3 rfl
      have f0 := hh.1; have f1 := hh.2.1; have f2 := hh.2.2; clear hh
      refine bodyPost_ret (v := .tuple #[.agg #[.string nm3, .slice a3 ys.length c3, .int .i64 au3], .bool false]) (by simp [results, Try.results134, go_sem, *]) rfl ?_
      have HE := Lib.hid (show res = (⟨name, conI xs, auto⟩, false) from by rw [HP.out]; rfl)
      exact ⟨⟨nm3, a3, c3, ys, au3⟩, by rw [HE.out]; rfl, by rw [HE.out]; exact HCON.out, Bag.bag_from S5.out 4 rfl, S5.out.old⟩
    | true =>
      go_wp2_with fail
      go_at_call 69
      refine (HIR.out _ S3.out.old).mono ?_
      rintro e w3 ⟨rfl, hb⟩
      clear f0 f1 f2 f3 f4 f5 f6 f7 f8 f9
      have S4 := Lib.hid (S3.out.keep hb)
      clear S3
      clear hb
      have hh := Bag.cs3 S4.out 0 rfl
      have f0 := hh.1; have f1 := hh.2.1; have f2 := hh.2.2; clear hh
      have hh := Bag.cs3 S4.out 1 rfl
      have f3 := hh.1; have f4 := hh.2.1; have f5 := hh.2.2; clear hh
      have f6 := Bag.cs1 S4.out 2 rfl
      have hh := Bag.cs3 S4.out 3 rfl
      have f7 := hh.1; have f8 := hh.2.1; have f9 := hh.2.2; clear hh
      cases br with
      | false =>
        go_wp2_with fail
        go_at_call 139
        refine (HCP.out _ S4.out.old).mono ?_
        rintro e w4 ⟨⟨nm3, a3, c3, ys, au3⟩, rfl, hcon, ho, hb⟩
        clear f0 f1 f2 f3 f4 f5 f6 f7 f8 f9
        have S5 := Lib.hid (show Sl.Sep w _ [L4.boxR w.heap.size 26 #[.string name, .slice a N c, .int .i64 auto], L4.boxR (w.heap.size + 1) 28 #[.int .i64 pk, .int .i64 pn, .string pt], L4.boxR (w.heap.size + 1 + 1) 41 #[.slice ra M rc], L4.boxR (w.heap.size + 1 + 1 + 1) 26 #[.string ⟨#[]⟩, .slice none 0 0, .int .i64 0], Bag.bag ((LS.mk nm3 a3 c3 ys au3).rows)] from Bag.push_bag S4.out hb ho)
        clear S4
        clear hb ho
        have HCON := Lib.hid hcon
        clear hcon
        simp only [LS.v, LS.cells]
        have hh := Bag.cs3 S5.out 3 rfl
        have f0 := hh.1; have f1 := hh.2.1; have f2 := hh.2.2; clear hh
        have hh := Bag.fs3 S5.out 3 rfl
        have z0 := hh.1; have z1 := hh.2.1; have z2 := hh.2.2; clear hh
        go_wp2_with fail
        clear f0 f1 f2 z0 z1 z2
        have S6 := Lib.hid (show Sl.Sep w _ [L4.boxR w.heap.size 26 #[.string name, .slice a N c, .int .i64 auto], L4.boxR (w.heap.size + 1) 28 #[.int .i64 pk, .int .i64 pn, .string pt], L4.boxR (w.heap.size + 1 + 1) 41 #[.slice ra M rc], L4.boxR (w.heap.size + 1 + 1 + 1) 26 #[.string nm3, .slice a3 ys.length c3, .int .i64 au3], Bag.bag ((LS.mk nm3 a3 c3 ys au3).rows)] from L5.put_box5 (L5.put_box5 (L5.put_box5 (S5.out) 3 rfl 0 (.string nm3)) 3 rfl 1 (.slice a3 ys.length c3)) 3 rfl 2 (.int .i64 au3))
        clear S5
        have hh := Bag.cs3 S6.out 3 rfl
        have f0 := hh.1; have f1 := hh.2.1; have f2 := hh.2.2; clear hh
        refine bodyPost_ret (v := .tuple #[.agg #[.string nm3, .slice a3 ys.length c3, .int .i64 au3], .bool false]) (by simp [results, Try.results134, go_sem, *]) rfl ?_
        have HE := Lib.hid (show res = (⟨name, conI xs, auto⟩, false) from by rw [HP.out]; rfl)
        exact ⟨⟨nm3, a3, c3, ys, au3⟩, by rw [HE.out]; rfl, by rw [HE.out]; exact HCON.out, Bag.bag_from S6.out 4 rfl, S6.out.old⟩
      | true =>
        replace HP := Lib.hid (show res = _ from HP.out)
        simp only [Bool.and_self, if_true] at HP
        go_wp2_with fail
        go_at_call 139
        refine (HCP.out _ S4.out.old).mono ?_
        rintro e w4 ⟨⟨nm3, a3, c3, ys, au3⟩, rfl, hcon, ho, hb⟩
        clear f0 f1 f2 f3 f4 f5 f6 f7 f8 f9
        have S5 := Lib.hid (show Sl.Sep w _ [L4.boxR w.heap.size 26 #[.string name, .slice a N c, .int .i64 auto], L4.boxR (w.heap.size + 1) 28 #[.int .i64 pk, .int .i64 pn, .string pt], L4.boxR (w.heap.size + 1 + 1) 41 #[.slice ra M rc], L4.boxR (w.heap.size + 1 + 1 + 1) 26 #[.string ⟨#[]⟩, .slice none 0 0, .int .i64 0], Bag.bag ((LS.mk nm3 a3 c3 ys au3).rows)] from Bag.push_bag S4.out hb ho)
        clear S4
        clear hb ho
        have HCON := Lib.hid hcon
        clear hcon
        simp only [LS.v, LS.cells]
        obtain ⟨e1, e2, e3⟩ : nm3 = name ∧ conI ys = conI xs ∧ au3 = auto := by have h := HCON.out; unfold LS.con at h; simp only [S6.mk.injEq] at h; exact h
        subst e1
        subst e3
        have HCE := Lib.hid e2
        have hyl : ys.length = N := by have h := congrArg List.length e2; simp only [conI_length] at h; rw [h]; exact HN.out.symm
        clear e2 HCON
        have hh := Bag.cs3 S5.out 0 rfl
        have f0 := hh.1; have f1 := hh.2.1; have f2 := hh.2.2; clear hh
        have hh := Bag.cs3 S5.out 1 rfl
        have f3 := hh.1; have f4 := hh.2.1; have f5 := hh.2.2; clear hh
        have f6 := Bag.cs1 S5.out 2 rfl
        have hh := Bag.cs3 S5.out 3 rfl
        have f7 := hh.1; have f8 := hh.2.1; have f9 := hh.2.2; clear hh
        rw [hyl]
        go_upto_region 4 with fail
        clear f0 f1 f2 f3 f4 f5 f6 f7 f8 f9
        have S6 := Lib.hid (show Sl.Sep w _ [L4.boxR w.heap.size 26 #[.string nm3, .slice a N c, .int .i64 au3], L4.boxR (w.heap.size + 1) 28 #[.int .i64 pk, .int .i64 pn, .string pt], L4.boxR (w.heap.size + 1 + 1) 41 #[.slice ra M rc], L4.boxR (w.heap.size + 1 + 1 + 1) 26 #[.string ⟨#[]⟩, .slice none 0 0, .int .i64 0], Bag.bag ((LS.mk nm3 a3 c3 ys au3).rows), L4.boxR w4.heap.size 26 #[.string nm3, .slice a3 N c3, .int .i64 au3]] from L4.push_box S5.out 26 #[.string nm3, .slice a3 N c3, .int .i64 au3] w4.heap.size rfl)
        clear S5
        obtain ⟨g1, hg⟩ : ∃ g', g' = w4.heap.size := ⟨_, rfl⟩
        rw [← hg] at S6 ⊢
        clear hg
        generalize w4.alloc (.cells #[.string nm3, .slice a3 N c3, .int .i64 au3] 26) = w5 at S6 ⊢
        have hh := Bag.cs3 S6.out 0 rfl
        have f0 := hh.1; have f1 := hh.2.1; have f2 := hh.2.2; clear hh
        have hh := Bag.cs3 S6.out 1 rfl
        have f3 := hh.1; have f4 := hh.2.1; have f5 := hh.2.2; clear hh
        have f6 := Bag.cs1 S6.out 2 rfl
        have hh := Bag.cs3 S6.out 3 rfl
        have f7 := hh.1; have f8 := hh.2.1; have f9 := hh.2.2; clear hh
        have hh := Bag.cs3 S6.out 5 rfl
        have f10 := hh.1; have f11 := hh.2.1; have f12 := hh.2.2; clear hh
        obtain ⟨fi, hfi⟩ : ∃ i, fndI (conI xs) ⟨pk, pn, pt⟩ = i := ⟨_, rfl⟩
        rw [hfi] at HFD
        have HFI := Lib.hid hfi
        clear hfi
        go_wp2_with fail
        go_at_call 152
        refine (HFD.out _ S6.out.old).mono ?_
        rintro e w6 ⟨rfl, hb⟩
        clear f0 f1 f2 f3 f4 f5 f6 f7 f8 f9 f10 f11 f12
        have S7 := Lib.hid (S6.out.keep hb)
        clear S6
        clear hb
        have hh := Bag.cs3 S7.out 0 rfl
        have f0 := hh.1; have f1 := hh.2.1; have f2 := hh.2.2; clear hh
        have hh := Bag.cs3 S7.out 1 rfl
        have f3 := hh.1; have f4 := hh.2.1; have f5 := hh.2.2; clear hh
        have f6 := Bag.cs1 S7.out 2 rfl
        have hh := Bag.cs3 S7.out 3 rfl
        have f7 := hh.1; have f8 := hh.2.1; have f9 := hh.2.2; clear hh
        have hh := Bag.cs3 S7.out 5 rfl
        have f10 := hh.1; have f11 := hh.2.1; have f12 := hh.2.2; clear hh
        cases hfo : fndO (conI xs) ⟨pk, pn, pt⟩ with
        | some i =>
          have hfi2 : fi = (i : Int) := by have h := HFI.out; unfold fndI at h; rw [hfo] at h; exact h.symm
          obtain ⟨hi, hki⟩ := fndO_some hfo
          subst hfi2
          have hiN : i < N := by rw [conI_length] at hi; have := HN.out; omega
          have hiy : i < ys.length := by omega
          have HE := Lib.hid (show res = (⟨nm3, (conI xs).set i ⟨⟨pk, pn, pt⟩, rl⟩, au3⟩, true) from by rw [HP.out, hfo])
          have HKI := Lib.hid (show ys[i].k = ⟨pk, pn, pt⟩ from by have h1 := con_of (List.getElem?_eq_getElem hiy); rw [HCE.out, List.getElem?_eq_getElem hi] at h1; have h2 := Option.some.inj h1; rw [h2] at hki; exact hki)
          clear hfo hki hi
          have hii : ((i : Nat) : Int) < (N : Int) := by omega
          clear f0 f1 f2 f3 f4 f5 f6 f7 f8 f9 f10 f11 f12
          have S8 := Lib.hid (show Sl.Sep w _ [L4.boxR w.heap.size 26 #[.string nm3, .slice a N c, .int .i64 au3], L4.boxR (w.heap.size + 1) 28 #[.int .i64 pk, .int .i64 pn, .string pt], L4.boxR (w.heap.size + 1 + 1) 41 #[.slice ra M rc], L4.boxR (w.heap.size + 1 + 1 + 1) 26 #[.string ⟨#[]⟩, .slice none 0 0, .int .i64 0], Bag.bag ([rowI a3 c3 ys] ++ rowsI ys), L4.boxR g1 26 #[.string nm3, .slice a3 N c3, .int .i64 au3]] from S7.out)
          clear S7
          have S9 := Lib.hid (show Sl.Sep w _ [L4.boxR w.heap.size 26 #[.string nm3, .slice a N c, .int .i64 au3], L4.boxR (w.heap.size + 1) 28 #[.int .i64 pk, .int .i64 pn, .string pt], L4.boxR (w.heap.size + 1 + 1) 41 #[.slice ra M rc], L4.boxR (w.heap.size + 1 + 1 + 1) 26 #[.string ⟨#[]⟩, .slice none 0 0, .int .i64 0], Bag.bag ([rowI a3 c3 ys]), L4.boxR g1 26 #[.string nm3, .slice a3 N c3, .int .i64 au3], Bag.bag (rowsI ys)] from Bag.bag_split S8.out 4 rfl)
          clear S8
          have S10 := Lib.hid (show Sl.Sep w _ [L4.boxR w.heap.size 26 #[.string nm3, .slice a N c, .int .i64 au3], L4.boxR (w.heap.size + 1) 28 #[.int .i64 pk, .int .i64 pn, .string pt], L4.boxR (w.heap.size + 1 + 1) 41 #[.slice ra M rc], L4.boxR (w.heap.size + 1 + 1 + 1) 26 #[.string ⟨#[]⟩, .slice none 0 0, .int .i64 0], Sv.ownV 43 4 a3 c3 N (cellsI ys), L4.boxR g1 26 #[.string nm3, .slice a3 N c3, .int .i64 au3], Bag.bag (rowsI ys)] from (by have h := Bag.one_of_bag S9.out 4 (r := rowI a3 c3 ys) rfl; unfold RowS.res rowI at h; dsimp only at h; rw [hyl] at h; exact h))
          clear S9
          obtain ⟨g3, rfl⟩ : ∃ g, a3 = some ⟨g, 0, none⟩ := by
            rcases (Sv.own_at S10.out 4 rfl).form with ⟨_, h0, _⟩ | ⟨g, e, _⟩
            · omega
            · exact ⟨g, e⟩
          have hh := Bag.cs3 S10.out 0 rfl
          have f0 := hh.1; have f1 := hh.2.1; have f2 := hh.2.2; clear hh
          have hh := Bag.cs3 S10.out 1 rfl
          have f3 := hh.1; have f4 := hh.2.1; have f5 := hh.2.2; clear hh
          have f6 := Bag.cs1 S10.out 2 rfl
          have hh := Bag.cs3 S10.out 3 rfl
          have f7 := hh.1; have f8 := hh.2.1; have f9 := hh.2.2; clear hh
          have hh := Bag.cs3 S10.out 5 rfl
          have f10 := hh.1; have f11 := hh.2.1; have f12 := hh.2.2; clear hh
          go_upto_region 6 with fail
          clear f0 f1 f2 f3 f4 f5 f6 f7 f8 f9 f10 f11 f12
          refine wp_region_held_drew (S := (fun w' => (World.cell? w' ⟨w.heap.size + 1 + 1, 0, none⟩ = some (.slice ra M rc)) ∧ (World.cell? w' ⟨g1, 0, none⟩ = some (.string nm3) ∧ World.cell? w' ⟨g1, 1, none⟩ = some (.slice (some ⟨g3, 0, none⟩) N c3) ∧ World.cell? w' ⟨g1, 2, none⟩ = some (.int .i64 au3)))) (by kernel_rfl) ⟨Bag.cs1 (Bag.drew1 S10.out) 2 rfl, Bag.cs3 (Bag.drew1 S10.out) 5 rfl⟩ (fun hS => ?_)
          have S11 := Lib.hid (show Sl.Sep w _ [L4.boxR w.heap.size 26 #[.string nm3, .slice a N c, .int .i64 au3], L4.boxR (w.heap.size + 1) 28 #[.int .i64 pk, .int .i64 pn, .string pt], L4.boxR (w.heap.size + 1 + 1) 41 #[.slice ra M rc], L4.boxR (w.heap.size + 1 + 1 + 1) 26 #[.string ⟨#[]⟩, .slice none 0 0, .int .i64 0], Sv.ownV 43 4 (some ⟨g3, 0, none⟩) c3 N (cellsI ys), L4.boxR g1 26 #[.string nm3, .slice (some ⟨g3, 0, none⟩) N c3, .int .i64 au3], Bag.bag (rowsI ys)] from Bag.drew1 S10.out)
          clear S10
          generalize World.drew _ = w7 at hS S11 ⊢
          refine tk 0 rfl ?_
          try simp only [zp0, zp1, zp2, zp3, zp4]
          refine tk 1 rfl ?_
          try simp only [zp0, zp1, zp2, zp3, zp4]
          refine tk 2 rfl ?_
          try simp only [zp0, zp1, zp2, zp3, zp4]
          refine tk 3 rfl ?_
          try simp only [zp0, zp1, zp2, zp3, zp4]
          refine Reg.one_op (i := 4) rfl (by kernel_rfl) (fun K hK => ?_)
          go_simp
          go_at_call 128
          refine (HRC.out _ S11.out.old).mono ?_
          rintro e w8 ⟨a1, c1, rfl, ho, hb⟩
          have S12 := Lib.hid (show Sl.Sep w _ [L4.boxR w.heap.size 26 #[.string nm3, .slice a N c, .int .i64 au3], L4.boxR (w.heap.size + 1) 28 #[.int .i64 pk, .int .i64 pn, .string pt], L4.boxR (w.heap.size + 1 + 1) 41 #[.slice ra M rc], L4.boxR (w.heap.size + 1 + 1 + 1) 26 #[.string ⟨#[]⟩, .slice none 0 0, .int .i64 0], Sv.ownV 43 4 (some ⟨g3, 0, none⟩) c3 N (cellsI ys), L4.boxR g1 26 #[.string nm3, .slice (some ⟨g3, 0, none⟩) N c3, .int .i64 au3], Bag.bag (rowsI ys), Sv.ownV 107 2 a1 c1 M (cellsF rl)] from Sv.push_own S11.out hb ho)
          clear S11
          clear hb ho
          go_wp2_with fail
          refine hK.out _ _ ⟨Bag.cs1 S12.out 2 rfl, Bag.cs3 S12.out 5 rfl⟩ (fun hS => ?_)
          clear hK K
          try simp only [zp0, zp1, zp2, zp3, zp4]
          refine tk 5 rfl ?_
          try simp only [zp0, zp1, zp2, zp3, zp4]
          refine tk 6 rfl ?_
          try simp only [zp0, zp1, zp2, zp3, zp4]
          refine Reg.one_op (i := 7) rfl (by kernel_rfl) (fun K hK => ?_)
          have q0 := (Sv.own_at S12.out 4 rfl).cell (i * 4 + 3) (by rw [cellsI_length]; omega)
          have q1 := (Sv.own_at S12.out 4 rfl).free (i * 4 + 3)
          go_simp
          clear q0 q1
          have S13 := Lib.hid (show Sl.Sep w (w8.setCell ⟨g3, i * 4 + 3, none⟩ (.slice a1 M c1)) [L4.boxR w.heap.size 26 #[.string nm3, .slice a N c, .int .i64 au3], L4.boxR (w.heap.size + 1) 28 #[.int .i64 pk, .int .i64 pn, .string pt], L4.boxR (w.heap.size + 1 + 1) 41 #[.slice ra M rc], L4.boxR (w.heap.size + 1 + 1 + 1) 26 #[.string ⟨#[]⟩, .slice none 0 0, .int .i64 0], Sv.ownV 43 4 (some ⟨g3, 0, none⟩) c3 N (cellsI (ys.set i ⟨ys[i].k, a1, c1, rl⟩)), L4.boxR g1 26 #[.string nm3, .slice (some ⟨g3, 0, none⟩) N c3, .int .i64 au3], Bag.bag (rowsI ys), Sv.ownV 107 2 a1 c1 M (cellsF rl)] from (by have h := Sv.set_own S12.out 4 rfl (i * 4 + 3) (by rw [cellsI_length]; omega) (.slice a1 M c1); rw [cellsI_set3m ys i hiy a1 c1 rl M HM.out] at h; exact h))
          clear S12
          refine hK.out _ _ ⟨Bag.cs1 S13.out 2 rfl, Bag.cs3 S13.out 5 rfl⟩ (fun hS => ?_)
          clear hK K
          try simp only [zp0, zp1, zp2, zp3, zp4]
          refine wpAnyH_done (by kernel_rfl) ?_ _
          have hh := Bag.cs3 S13.out 0 rfl
          have f0 := hh.1; have f1 := hh.2.1; have f2 := hh.2.2; clear hh
          have hh := Bag.cs3 S13.out 1 rfl
          have f3 := hh.1; have f4 := hh.2.1; have f5 := hh.2.2; clear hh
          have f6 := Bag.cs1 S13.out 2 rfl
          have hh := Bag.cs3 S13.out 3 rfl
          have f7 := hh.1; have f8 := hh.2.1; have f9 := hh.2.2; clear hh
          have hh := Bag.cs3 S13.out 5 rfl
          have f10 := hh.1; have f11 := hh.2.1; have f12 := hh.2.2; clear hh
          clear f0 f1 f2 f3 f4 f5 f6 f7 f8 f9 f10 f11 f12
          have hh := Bag.cs3 S13.out 3 rfl
          have f0 := hh.1; have f1 := hh.2.1; have f2 := hh.2.2; clear hh
          have hh := Bag.cs3 S13.out 5 rfl
          have f3 := hh.1; have f4 := hh.2.1; have f5 := hh.2.2; clear hh
          have hh := Bag.fs3 S13.out 3 rfl
          have z0 := hh.1; have z1 := hh.2.1; have z2 := hh.2.2; clear hh
          go_wp2_with fail
          clear f0 f1 f2 f3 f4 f5 z0 z1 z2
          have S14 := Lib.hid (show Sl.Sep w _ [L4.boxR w.heap.size 26 #[.string nm3, .slice a N c, .int .i64 au3], L4.boxR (w.heap.size + 1) 28 #[.int .i64 pk, .int .i64 pn, .string pt], L4.boxR (w.heap.size + 1 + 1) 41 #[.slice ra M rc], L4.boxR (w.heap.size + 1 + 1 + 1) 26 #[.string nm3, .slice (some ⟨g3, 0, none⟩) N c3, .int .i64 au3], Sv.ownV 43 4 (some ⟨g3, 0, none⟩) c3 N (cellsI (ys.set i ⟨ys[i].k, a1, c1, rl⟩)), L4.boxR g1 26 #[.string nm3, .slice (some ⟨g3, 0, none⟩) N c3, .int .i64 au3], Bag.bag (rowsI ys), Sv.ownV 107 2 a1 c1 M (cellsF rl)] from L5.put_box5 (L5.put_box5 (L5.put_box5 (S13.out) 3 rfl 0 (.string nm3)) 3 rfl 1 (.slice (some ⟨g3, 0, none⟩) N c3)) 3 rfl 2 (.int .i64 au3))
          clear S13
          have hh := Bag.cs3 S14.out 3 rfl
          have f0 := hh.1; have f1 := hh.2.1; have f2 := hh.2.2; clear hh
          refine bodyPost_ret (v := .tuple #[.agg #[.string nm3, .slice (some ⟨g3, 0, none⟩) N c3, .int .i64 au3], .bool true]) (by simp [results, Try.results134, go_sem, *]) rfl ?_
          clear f0 f1 f2
          have hM := HM.out
          subst hM
          have S90 := Lib.hid (Bag.bag_of_one S14.out 7 (r := (LI.mk ys[i].k a1 c1 rl).row) rfl)
          have S91 := Lib.hid (Bag.bag_join S90.out 6 7 (by decide) rfl rfl)
          have S92 := Lib.hid (bag_swap S91.out 6 rfl i (by unfold rowsI; rw [List.length_map]; exact hiy))
          have S93 := Lib.hid (Bag.bag_of_one S92.out 4 (r := rowI (some ⟨g3, 0, none⟩) c3 (ys.set i ⟨ys[i].k, a1, c1, rl⟩)) (by unfold RowS.res rowI; dsimp only; rw [List.length_set, hyl]; rfl))
          have S94 := Lib.hid (Bag.bag_join S93.out 4 6 (by decide) rfl rfl)
          refine ⟨⟨nm3, some ⟨g3, 0, none⟩, c3, ys.set i ⟨ys[i].k, a1, c1, rl⟩, au3⟩, ?_, ?_, ?_, S94.out.old⟩
          · rw [HE.out]; unfold LS.v LS.cells; dsimp only; rw [List.length_set, hyl]
          · rw [HE.out]; unfold LS.con; dsimp only; rw [conI_set, HCE.out]; unfold LI.con; dsimp only; rw [HKI.out]
          · have h := Bag.bag_from S94.out 4 rfl
            unfold LS.rows; rw [rowsI_set]; exact h
        | none =>
          have hfi2 : fi = -1 := by have h := HFI.out; unfold fndI at h; rw [hfo] at h; exact h.symm
          subst hfi2
          by_cases h16 : (16 : Int) ≤ (N : Int)
          · have HE := Lib.hid (show res = (⟨nm3, conI xs, au3⟩, false) from by rw [HP.out, hfo]; dsimp only; rw [if_pos (by rw [conI_length, ← HN.out]; omega)])
            clear hfo
            go_upto_region 9 with fail
            clear f0 f1 f2 f3 f4 f5 f6 f7 f8 f9 f10 f11 f12
            have hh := Bag.cs3 S7.out 3 rfl
            have f0 := hh.1; have f1 := hh.2.1; have f2 := hh.2.2; clear hh
            have hh := Bag.cs3 S7.out 5 rfl
            have f3 := hh.1; have f4 := hh.2.1; have f5 := hh.2.2; clear hh
            have hh := Bag.fs3 S7.out 3 rfl
            have z0 := hh.1; have z1 := hh.2.1; have z2 := hh.2.2; clear hh
            go_wp2_with fail
            clear f0 f1 f2 f3 f4 f5 z0 z1 z2
            have S8 := Lib.hid (show Sl.Sep w _ [L4.boxR w.heap.size 26 #[.string nm3, .slice a N c, .int .i64 au3], L4.boxR (w.heap.size + 1) 28 #[.int .i64 pk, .int .i64 pn, .string pt], L4.boxR (w.heap.size + 1 + 1) 41 #[.slice ra M rc], L4.boxR (w.heap.size + 1 + 1 + 1) 26 #[.string nm3, .slice a3 N c3, .int .i64 au3], Bag.bag ((LS.mk nm3 a3 c3 ys au3).rows), L4.boxR g1 26 #[.string nm3, .slice a3 N c3, .int .i64 au3]] from L5.put_box5 (L5.put_box5 (L5.put_box5 (S7.out) 3 rfl 0 (.string nm3)) 3 rfl 1 (.slice a3 N c3)) 3 rfl 2 (.int .i64 au3))
            clear S7
            have hh := Bag.cs3 S8.out 3 rfl
            have f0 := hh.1; have f1 := hh.2.1; have f2 := hh.2.2; clear hh
            refine bodyPost_ret (v := .tuple #[.agg #[.string nm3, .slice a3 N c3, .int .i64 au3], .bool false]) (by simp [results, Try.results134, go_sem, *]) rfl ?_
            clear f0 f1 f2
            exact ⟨⟨nm3, a3, c3, ys, au3⟩, by rw [HE.out]; unfold LS.v LS.cells; dsimp only; rw [hyl], by rw [HE.out]; unfold LS.con; dsimp only; rw [HCE.out], Bag.bag_from S8.out 4 rfl, S8.out.old⟩
          · skip
            have HE := Lib.hid (show res = (⟨nm3, (conI xs).take (posI (conI xs) ⟨pk, pn, pt⟩) ++ ⟨⟨pk, pn, pt⟩, rl⟩ :: (conI xs).drop (posI (conI xs) ⟨pk, pn, pt⟩), nextAuto au3 ⟨pk, pn, pt⟩⟩, true) from by rw [HP.out, hfo]; dsimp only; rw [if_neg (by rw [conI_length, ← HN.out]; omega)])
            clear hfo
            have HAU := Lib.hid (show 0 ≤ au3 ∧ au3 ≤ 1000000 from by have h := HBS.out; unfold isS at h; simp only [Bool.and_eq_true] at h; exact L1.inB_true.1 h.2.2.2)
            clear f0 f1 f2 f3 f4 f5 f6 f7 f8 f9 f10 f11 f12
            have S8 := Lib.hid (show Sl.Sep w _ [L4.boxR w.heap.size 26 #[.string nm3, .slice a N c, .int .i64 au3], L4.boxR (w.heap.size + 1) 28 #[.int .i64 pk, .int .i64 pn, .string pt], L4.boxR (w.heap.size + 1 + 1) 41 #[.slice ra M rc], L4.boxR (w.heap.size + 1 + 1 + 1) 26 #[.string ⟨#[]⟩, .slice none 0 0, .int .i64 0], Bag.bag ([rowI a3 c3 ys] ++ rowsI ys), L4.boxR g1 26 #[.string nm3, .slice a3 N c3, .int .i64 au3]] from S7.out)
            clear S7
            have S9 := Lib.hid (show Sl.Sep w _ [L4.boxR w.heap.size 26 #[.string nm3, .slice a N c, .int .i64 au3], L4.boxR (w.heap.size + 1) 28 #[.int .i64 pk, .int .i64 pn, .string pt], L4.boxR (w.heap.size + 1 + 1) 41 #[.slice ra M rc], L4.boxR (w.heap.size + 1 + 1 + 1) 26 #[.string ⟨#[]⟩, .slice none 0 0, .int .i64 0], Bag.bag ([rowI a3 c3 ys]), L4.boxR g1 26 #[.string nm3, .slice a3 N c3, .int .i64 au3], Bag.bag (rowsI ys)] from Bag.bag_split S8.out 4 rfl)
            clear S8
            have S10 := Lib.hid (show Sl.Sep w _ [L4.boxR w.heap.size 26 #[.string nm3, .slice a N c, .int .i64 au3], L4.boxR (w.heap.size + 1) 28 #[.int .i64 pk, .int .i64 pn, .string pt], L4.boxR (w.heap.size + 1 + 1) 41 #[.slice ra M rc], L4.boxR (w.heap.size + 1 + 1 + 1) 26 #[.string ⟨#[]⟩, .slice none 0 0, .int .i64 0], Sv.ownV 43 4 a3 c3 N (cellsI ys), L4.boxR g1 26 #[.string nm3, .slice a3 N c3, .int .i64 au3], Bag.bag (rowsI ys)] from (by have h := Bag.one_of_bag S9.out 4 (r := rowI a3 c3 ys) rfl; unfold RowS.res rowI at h; dsimp only at h; rw [hyl] at h; exact h))
            clear S9
            have hh := Bag.cs3 S10.out 0 rfl
            have f0 := hh.1; have f1 := hh.2.1; have f2 := hh.2.2; clear hh
            have hh := Bag.cs3 S10.out 1 rfl
            have f3 := hh.1; have f4 := hh.2.1; have f5 := hh.2.2; clear hh
            have f6 := Bag.cs1 S10.out 2 rfl
            have hh := Bag.cs3 S10.out 3 rfl
            have f7 := hh.1; have f8 := hh.2.1; have f9 := hh.2.2; clear hh
            have hh := Bag.cs3 S10.out 5 rfl
            have f10 := hh.1; have f11 := hh.2.1; have f12 := hh.2.2; clear hh
            go_wp2_with fail
            go_loopw [10] (fun i wr => ∃ k : Nat, k ≤ N ∧ i = .int .i64 k ∧ Hid ((∀ j (hj : j < (conI xs).length), j < k → cmpK (conI xs)[j].k ⟨pk, pn, pt⟩ < 0) ∧ Sl.Sep w wr [L4.boxR w.heap.size 26 #[.string nm3, .slice a N c, .int .i64 au3], L4.boxR (w.heap.size + 1) 28 #[.int .i64 pk, .int .i64 pn, .string pt], L4.boxR (w.heap.size + 1 + 1) 41 #[.slice ra M rc], L4.boxR (w.heap.size + 1 + 1 + 1) 26 #[.string ⟨#[]⟩, .slice none 0 0, .int .i64 0], Sv.ownV 43 4 a3 c3 N (cellsI ys), L4.boxR g1 26 #[.string nm3, .slice a3 N c3, .int .i64 au3], Bag.bag (rowsI ys)])) (fun i _ => N - (intOf i).toNat)
            case atStart => exact ⟨0, Nat.zero_le _, rfl, And.intro (fun j hj h => absurd h (by omega)) S10.out⟩
            case round =>
              clear f0 f1 f2 f3 f4 f5 f6 f7 f8 f9 f10 f11 f12
              obtain ⟨k, hk, rfl, hrel⟩ := hrel
              have HA := Lib.hid hrel.out.1
              have S11 := Lib.hid hrel.out.2
              clear hrel S10
              by_cases hlt : (k : Int) < (N : Int)
              · skip
                have hkl : k < xs.length := by have := HN.out; omega
                obtain ⟨ad, x, rfl, hx⟩ := readsI_some (HR.out _ S11.out.old) k hkl
                obtain ⟨⟨kd, n, t⟩, ia, ic, l⟩ := x
                have HK := Lib.hid (fun w' (h : Below w.heap.size w w') => readsI_at (HR.out _ h) k _ hx)
                try dsimp only at HK
                have HFI := Lib.hid (fit_at HF.out hx)
                try dsimp only [LI.con] at HFI
                have hci : k < (conI xs).length := by rw [conI_length]; exact hkl
                have HC := Lib.hid (show (conI xs)[k]? = some (⟨⟨kd, n, t⟩, l⟩ : It) from con_of hx)
                clear hx
                obtain ⟨cv, hcv⟩ : ∃ b, cmpK ⟨kd, n, t⟩ ⟨pk, pn, pt⟩ = b := ⟨_, rfl⟩
                have HCMP := fun w => L4.specCompareKeys_any ⟨kd, n, t⟩ ⟨pk, pn, pt⟩ (by have : t.size ≤ 1099511627776 := HFI.out.text; show t.size ≤ _; omega) (by show pt.size ≤ _; omega) w
                rw [hcv] at HCMP
                replace HCMP := Lib.hid HCMP
                have HCV := Lib.hid hcv
                clear hcv
                have hh := Bag.cs3 S11.out 0 rfl
                have f0 := hh.1; have f1 := hh.2.1; have f2 := hh.2.2; clear hh
                have hh := Bag.cs3 S11.out 1 rfl
                have f3 := hh.1; have f4 := hh.2.1; have f5 := hh.2.2; clear hh
                have f6 := Bag.cs1 S11.out 2 rfl
                have hh := Bag.cs3 S11.out 3 rfl
                have f7 := hh.1; have f8 := hh.2.1; have f9 := hh.2.2; clear hh
                have hh := Bag.cs3 S11.out 5 rfl
                have f10 := hh.1; have f11 := hh.2.1; have f12 := hh.2.2; clear hh
                have hh := HK.out _ S11.out.old
                have f13 := hh.1; have f14 := hh.2.1; have f15 := hh.2.2.1; have f16 := hh.2.2.2; clear hh
                by_cases hc : cv < 0
                · skip
                  go_upto_region 11 with fail
                  clear f0 f1 f2 f3 f4 f5 f6 f7 f8 f9 f10 f11 f12 f13 f14 f15 f16
                  refine wp_region_held_drew (S := (fun w' => (World.cell? w' ⟨w.heap.size, 0, none⟩ = some (.string nm3) ∧ World.cell? w' ⟨w.heap.size, 1, none⟩ = some (.slice (some ad) N c) ∧ World.cell? w' ⟨w.heap.size, 2, none⟩ = some (.int .i64 au3)) ∧ (World.cell? w' ⟨w.heap.size + 1, 0, none⟩ = some (.int .i64 pk) ∧ World.cell? w' ⟨w.heap.size + 1, 1, none⟩ = some (.int .i64 pn) ∧ World.cell? w' ⟨w.heap.size + 1, 2, none⟩ = some (.string pt)) ∧ (World.cell? w' (ad.add (k * 4)) = some (.int .i64 kd) ∧ World.cell? w' (⟨(ad.add (k * 4)).block, (ad.add (k * 4)).off + 1, none⟩) = some (.int .i64 n) ∧ World.cell? w' (⟨(ad.add (k * 4)).block, (ad.add (k * 4)).off + 2, none⟩) = some (.string t) ∧ World.cell? w' (⟨(ad.add (k * 4)).block, (ad.add (k * 4)).off + 3, none⟩) = some (.slice ia l.length ic)))) (by kernel_rfl) ⟨Bag.cs3 (Bag.drew1 S11.out) 0 rfl, Bag.cs3 (Bag.drew1 S11.out) 1 rfl, HK.out _ (Bag.drew1 S11.out).old⟩ (fun hS => ?_)
                  have S12 := Lib.hid (show Sl.Sep w _ [L4.boxR w.heap.size 26 #[.string nm3, .slice (some ad) N c, .int .i64 au3], L4.boxR (w.heap.size + 1) 28 #[.int .i64 pk, .int .i64 pn, .string pt], L4.boxR (w.heap.size + 1 + 1) 41 #[.slice ra M rc], L4.boxR (w.heap.size + 1 + 1 + 1) 26 #[.string ⟨#[]⟩, .slice none 0 0, .int .i64 0], Sv.ownV 43 4 a3 c3 N (cellsI ys), L4.boxR g1 26 #[.string nm3, .slice a3 N c3, .int .i64 au3], Bag.bag (rowsI ys)] from Bag.drew1 S11.out)
                  clear S11
                  generalize World.drew _ = w7 at hS S12 ⊢
                  refine tk 0 rfl ?_
                  try simp only [zp0, zp1, zp2, zp3, zp4]
                  refine tk 1 rfl ?_
                  try simp only [zp0, zp1, zp2, zp3, zp4]
                  refine tk 2 rfl ?_
                  try simp only [zp0, zp1, zp2, zp3, zp4]
                  refine tk 3 rfl ?_
                  try simp only [zp0, zp1, zp2, zp3, zp4]
                  refine tk 4 rfl ?_
                  try simp only [zp0, zp1, zp2, zp3, zp4]
                  refine tk 5 rfl ?_
                  try simp only [zp0, zp1, zp2, zp3, zp4]
                  refine tk 6 rfl ?_
                  try simp only [zp0, zp1, zp2, zp3, zp4]
                  refine tk 7 rfl ?_
                  try simp only [zp0, zp1, zp2, zp3, zp4]
                  refine tk 8 rfl ?_
                  try simp only [zp0, zp1, zp2, zp3, zp4]
                  refine tk 9 rfl ?_
                  try simp only [zp0, zp1, zp2, zp3, zp4]
                  refine tk 10 rfl ?_
                  try simp only [zp0, zp1, zp2, zp3, zp4]
                  refine tk 11 rfl ?_
                  try simp only [zp0, zp1, zp2, zp3, zp4]
                  refine tk 12 rfl ?_
                  try simp only [zp0, zp1, zp2, zp3, zp4]
                  refine Reg.one_op (i := 13) rfl (by kernel_rfl) (fun K hK => ?_)
                  go_simp
                  go_at_call 27
                  refine (HCMP.out _).mono ?_
                  rintro e w8 ⟨rfl, hb⟩
                  have S13 := Lib.hid (S12.out.keep hb)
                  clear S12
                  clear hb
                  go_wp2_with fail
                  refine hK.out _ _ ⟨Bag.cs3 S13.out 0 rfl, Bag.cs3 S13.out 1 rfl, HK.out _ S13.out.old⟩ (fun hS => ?_)
                  clear hK K
                  try simp only [zp0, zp1, zp2, zp3, zp4]
                  refine tk 14 rfl ?_
                  try simp only [zp0, zp1, zp2, zp3, zp4]
                  refine tk 15 rfl ?_
                  try simp only [zp0, zp1, zp2, zp3, zp4]
                  refine wpAnyH_done (by kernel_rfl) ?_ _
                  have hh := Bag.cs3 S13.out 0 rfl
                  have f0 := hh.1; have f1 := hh.2.1; have f2 := hh.2.2; clear hh
                  have hh := Bag.cs3 S13.out 1 rfl
                  have f3 := hh.1; have f4 := hh.2.1; have f5 := hh.2.2; clear hh
                  have f6 := Bag.cs1 S13.out 2 rfl
                  have hh := Bag.cs3 S13.out 3 rfl
                  have f7 := hh.1; have f8 := hh.2.1; have f9 := hh.2.2; clear hh
                  have hh := Bag.cs3 S13.out 5 rfl
                  have f10 := hh.1; have f11 := hh.2.1; have f12 := hh.2.2; clear hh
                  have hh := HK.out _ S13.out.old
                  have f13 := hh.1; have f14 := hh.2.1; have f15 := hh.2.2.1; have f16 := hh.2.2.2; clear hh
                  go_wp2_with fail
                  go_roundw
                  case rel => exact ⟨k + 1, by omega, by go_num, And.intro (fun j hj h => by
                    by_cases e : j < k
                    · exact HA.out j hj e
                    · obtain rfl : j = k := by omega
                      rw [(List.getElem?_eq_some_iff.1 HC.out).2, HCV.out]; exact hc) S13.out⟩
                  case measure => simp [intOf]; omega
                · have hc2 : 0 ≤ cv := by omega
                  go_upto_region 11 with fail
                  clear f0 f1 f2 f3 f4 f5 f6 f7 f8 f9 f10 f11 f12 f13 f14 f15 f16
                  refine wp_region_held_drew (S := (fun w' => (World.cell? w' ⟨w.heap.size, 0, none⟩ = some (.string nm3) ∧ World.cell? w' ⟨w.heap.size, 1, none⟩ = some (.slice (some ad) N c) ∧ World.cell? w' ⟨w.heap.size, 2, none⟩ = some (.int .i64 au3)) ∧ (World.cell? w' ⟨w.heap.size + 1, 0, none⟩ = some (.int .i64 pk) ∧ World.cell? w' ⟨w.heap.size + 1, 1, none⟩ = some (.int .i64 pn) ∧ World.cell? w' ⟨w.heap.size + 1, 2, none⟩ = some (.string pt)) ∧ (World.cell? w' (ad.add (k * 4)) = some (.int .i64 kd) ∧ World.cell? w' (⟨(ad.add (k * 4)).block, (ad.add (k * 4)).off + 1, none⟩) = some (.int .i64 n) ∧ World.cell? w' (⟨(ad.add (k * 4)).block, (ad.add (k * 4)).off + 2, none⟩) = some (.string t) ∧ World.cell? w' (⟨(ad.add (k * 4)).block, (ad.add (k * 4)).off + 3, none⟩) = some (.slice ia l.length ic)))) (by kernel_rfl) ⟨Bag.cs3 (Bag.drew1 S11.out) 0 rfl, Bag.cs3 (Bag.drew1 S11.out) 1 rfl, HK.out _ (Bag.drew1 S11.out).old⟩ (fun hS => ?_)
                  have S12 := Lib.hid (show Sl.Sep w _ [L4.boxR w.heap.size 26 #[.string nm3, .slice (some ad) N c, .int .i64 au3], L4.boxR (w.heap.size + 1) 28 #[.int .i64 pk, .int .i64 pn, .string pt], L4.boxR (w.heap.size + 1 + 1) 41 #[.slice ra M rc], L4.boxR (w.heap.size + 1 + 1 + 1) 26 #[.string ⟨#[]⟩, .slice none 0 0, .int .i64 0], Sv.ownV 43 4 a3 c3 N (cellsI ys), L4.boxR g1 26 #[.string nm3, .slice a3 N c3, .int .i64 au3], Bag.bag (rowsI ys)] from Bag.drew1 S11.out)
                  clear S11
                  generalize World.drew _ = w7 at hS S12 ⊢
                  refine tk 0 rfl ?_
                  try simp only [zp0, zp1, zp2, zp3, zp4]
                  refine tk 1 rfl ?_
                  try simp only [zp0, zp1, zp2, zp3, zp4]
                  refine tk 2 rfl ?_
                  try simp only [zp0, zp1, zp2, zp3, zp4]
                  refine tk 3 rfl ?_
                  try simp only [zp0, zp1, zp2, zp3, zp4]
                  refine tk 4 rfl ?_
                  try simp only [zp0, zp1, zp2, zp3, zp4]
                  refine tk 5 rfl ?_
                  try simp only [zp0, zp1, zp2, zp3, zp4]
                  refine tk 6 rfl ?_
                  try simp only [zp0, zp1, zp2, zp3, zp4]
                  refine tk 7 rfl ?_
                  try simp only [zp0, zp1, zp2, zp3, zp4]
                  refine tk 8 rfl ?_
                  try simp only [zp0, zp1, zp2, zp3, zp4]
                  refine tk 9 rfl ?_
                  try simp only [zp0, zp1, zp2, zp3, zp4]
                  refine tk 10 rfl ?_
                  try simp only [zp0, zp1, zp2, zp3, zp4]
                  refine tk 11 rfl ?_
                  try simp only [zp0, zp1, zp2, zp3, zp4]
                  refine tk 12 rfl ?_
                  try simp only [zp0, zp1, zp2, zp3, zp4]
                  refine Reg.one_op (i := 13) rfl (by kernel_rfl) (fun K hK => ?_)
                  go_simp
                  go_at_call 27
                  refine (HCMP.out _).mono ?_
                  rintro e w8 ⟨rfl, hb⟩
                  have S13 := Lib.hid (S12.out.keep hb)
                  clear S12
                  clear hb
                  go_wp2_with fail
                  refine hK.out _ _ ⟨Bag.cs3 S13.out 0 rfl, Bag.cs3 S13.out 1 rfl, HK.out _ S13.out.old⟩ (fun hS => ?_)
                  clear hK K
                  try simp only [zp0, zp1, zp2, zp3, zp4]
                  refine tk 14 rfl ?_
                  try simp only [zp0, zp1, zp2, zp3, zp4]
                  refine tk 15 rfl ?_
                  try simp only [zp0, zp1, zp2, zp3, zp4]
                  refine wpAnyH_done (by kernel_rfl) ?_ _
                  have hh := Bag.cs3 S13.out 0 rfl
                  have f0 := hh.1; have f1 := hh.2.1; have f2 := hh.2.2; clear hh
                  have hh := Bag.cs3 S13.out 1 rfl
                  have f3 := hh.1; have f4 := hh.2.1; have f5 := hh.2.2; clear hh
                  have f6 := Bag.cs1 S13.out 2 rfl
                  have hh := Bag.cs3 S13.out 3 rfl
                  have f7 := hh.1; have f8 := hh.2.1; have f9 := hh.2.2; clear hh
                  have hh := Bag.cs3 S13.out 5 rfl
                  have f10 := hh.1; have f11 := hh.2.1; have f12 := hh.2.2; clear hh
                  have hh := HK.out _ S13.out.old
                  have f13 := hh.1; have f14 := hh.2.1; have f15 := hh.2.2.1; have f16 := hh.2.2.2; clear hh
                  have HPOS := Lib.hid (posI_at (xs := conI xs) (k := ⟨pk, pn, pt⟩) k (by omega) HA.out (fun h => by rw [(List.getElem?_eq_some_iff.1 HC.out).2, HCV.out]; omega))
                  clear f0 f1 f2 f3 f4 f5 f6 f7 f8 f9 f10 f11 f12 f13 f14 f15 f16
                  obtain ⟨g9, rfl⟩ : ∃ g, a3 = some ⟨g, 0, none⟩ := by
                    rcases (Sv.own_at S13.out 4 rfl).form with ⟨_, h0, _⟩ | ⟨g, e, _⟩
                    · omega
                    · exact ⟨g, e⟩
                  have hky : k ≤ ys.length := by omega
                  have hck : (k : Int) ≤ (c3 : Int) := by have := (Sv.own_at S13.out 4 rfl).cap; omega
                  have S14 := Lib.hid (show Sl.Sep w _ [L4.boxR w.heap.size 26 #[.string nm3, .slice (some ad) N c, .int .i64 au3], L4.boxR (w.heap.size + 1) 28 #[.int .i64 pk, .int .i64 pn, .string pt], L4.boxR (w.heap.size + 1 + 1) 41 #[.slice ra M rc], L4.boxR (w.heap.size + 1 + 1 + 1) 26 #[.string ⟨#[]⟩, .slice none 0 0, .int .i64 0], Sv.ownV 43 4 (some ⟨g9, 0, none⟩) c3 N (cellsI ys), L4.boxR g1 26 #[.string nm3, .slice (some ⟨g9, 0, none⟩) N c3, .int .i64 au3], Bag.bag (rowsI ys), Sv.ownV 43 4 (some ⟨w8.heap.size, 0, none⟩) 0 0 (cellsI [])] from Sv.push_own S13.out ((Below.refl _ _).alloc (Nat.le_refl _) _) (OwnV.madeAt w8 43 4 0 w8.heap.size #[] rfl (Nat.le_refl _) rfl (by decide)))
                  clear S13
                  have hh := Bag.cs3 S14.out 5 rfl
                  have f0 := hh.1; have f1 := hh.2.1; have f2 := hh.2.2; clear hh
                  have hh := HK.out _ S14.out.old
                  have f3 := hh.1; have f4 := hh.2.1; have f5 := hh.2.2.1; have f6 := hh.2.2.2; clear hh
                  go_wp2_with (at_builtin; refine L5.wpList_append_v S14.out 7 rfl rfl _ _ 24 (by rfl) i0 (.agg #[.int .i64 0, .int .i64 0, .string ⟨#[]⟩, .slice none 0 0]) 56 Try.underlying24 HI.out.1 HI.out.2.1 HI.out.2.2.1 HI.out.2.2.2 rfl (by omega) _ (by rfl) rfl _ _ k _ _ (cellsI (ys.take k)) (by rfl) rfl (reads_head (Sv.own_at S14.out 4 rfl).reads k) (by rw [cellsI_length, List.length_take, Nat.min_eq_left hky]) (cellsI_one _) (by unfold maxLen; omega) (by omega) ?_; intro a2' c2' w9 hA)
                  clear f0 f1 f2 f3 f4 f5 f6
                  have S15 := Lib.hid (show Sl.Sep w w9 [L4.boxR w.heap.size 26 #[.string nm3, .slice (some ad) N c, .int .i64 au3], L4.boxR (w.heap.size + 1) 28 #[.int .i64 pk, .int .i64 pn, .string pt], L4.boxR (w.heap.size + 1 + 1) 41 #[.slice ra M rc], L4.boxR (w.heap.size + 1 + 1 + 1) 26 #[.string ⟨#[]⟩, .slice none 0 0, .int .i64 0], Sv.ownV 43 4 (some ⟨g9, 0, none⟩) c3 N (cellsI ys), L4.boxR g1 26 #[.string nm3, .slice (some ⟨g9, 0, none⟩) N c3, .int .i64 au3], Bag.bag (rowsI ys), Sv.ownV 43 4 a2' c2' k (cellsI (ys.take k))] from (by have h := hA; rw [Nat.zero_add] at h; exact h))
                  clear S14
                  clear hA
                  have hh := Bag.cs3 S15.out 0 rfl
                  have f0 := hh.1; have f1 := hh.2.1; have f2 := hh.2.2; clear hh
                  have hh := Bag.cs3 S15.out 1 rfl
                  have f3 := hh.1; have f4 := hh.2.1; have f5 := hh.2.2; clear hh
                  have f6 := Bag.cs1 S15.out 2 rfl
                  have hh := Bag.cs3 S15.out 3 rfl
                  have f7 := hh.1; have f8 := hh.2.1; have f9 := hh.2.2; clear hh
                  have hh := Bag.cs3 S15.out 5 rfl
                  have f10 := hh.1; have f11 := hh.2.1; have f12 := hh.2.2; clear hh
                  have hh := HK.out _ S15.out.old
                  have f13 := hh.1; have f14 := hh.2.1; have f15 := hh.2.2.1; have f16 := hh.2.2.2; clear hh
                  go_upto_region 14 with fail
                  clear f0 f1 f2 f3 f4 f5 f6 f7 f8 f9 f10 f11 f12 f13 f14 f15 f16
                  refine wp_region_held_drew (S := (fun w' => (World.cell? w' ⟨w.heap.size + 1, 0, none⟩ = some (.int .i64 pk) ∧ World.cell? w' ⟨w.heap.size + 1, 1, none⟩ = some (.int .i64 pn) ∧ World.cell? w' ⟨w.heap.size + 1, 2, none⟩ = some (.string pt)) ∧ (World.cell? w' ⟨w.heap.size + 1 + 1, 0, none⟩ = some (.slice ra M rc)) ∧ (World.cell? w' (ad.add (k * 4)) = some (.int .i64 kd) ∧ World.cell? w' (⟨(ad.add (k * 4)).block, (ad.add (k * 4)).off + 1, none⟩) = some (.int .i64 n) ∧ World.cell? w' (⟨(ad.add (k * 4)).block, (ad.add (k * 4)).off + 2, none⟩) = some (.string t) ∧ World.cell? w' (⟨(ad.add (k * 4)).block, (ad.add (k * 4)).off + 3, none⟩) = some (.slice ia l.length ic)))) (by kernel_rfl) ⟨Bag.cs3 (Bag.drew1 S15.out) 1 rfl, Bag.cs1 (Bag.drew1 S15.out) 2 rfl, HK.out _ (Bag.drew1 S15.out).old⟩ (fun hS => ?_)
                  have S16 := Lib.hid (show Sl.Sep w _ [L4.boxR w.heap.size 26 #[.string nm3, .slice (some ad) N c, .int .i64 au3], L4.boxR (w.heap.size + 1) 28 #[.int .i64 pk, .int .i64 pn, .string pt], L4.boxR (w.heap.size + 1 + 1) 41 #[.slice ra M rc], L4.boxR (w.heap.size + 1 + 1 + 1) 26 #[.string ⟨#[]⟩, .slice none 0 0, .int .i64 0], Sv.ownV 43 4 (some ⟨g9, 0, none⟩) c3 N (cellsI ys), L4.boxR g1 26 #[.string nm3, .slice (some ⟨g9, 0, none⟩) N c3, .int .i64 au3], Bag.bag (rowsI ys), Sv.ownV 43 4 a2' c2' k (cellsI (ys.take k))] from Bag.drew1 S15.out)
                  clear S15
                  generalize World.drew _ = w10 at hS S16 ⊢
                  refine tk 0 rfl ?_
                  try simp only [zp0, zp1, zp2, zp3, zp4]
                  refine tk 1 rfl ?_
                  try simp only [zp0, zp1, zp2, zp3, zp4]
                  refine tk 2 rfl ?_
                  try simp only [zp0, zp1, zp2, zp3, zp4]
                  refine Reg.one_op (i := 3) rfl (by kernel_rfl) (fun K hK => ?_)
                  go_simp
                  go_at_call 128
                  refine (HRC.out _ S16.out.old).mono ?_
                  rintro e w11 ⟨a1, c1, rfl, ho, hb⟩
                  have S17 := Lib.hid (show Sl.Sep w _ [L4.boxR w.heap.size 26 #[.string nm3, .slice (some ad) N c, .int .i64 au3], L4.boxR (w.heap.size + 1) 28 #[.int .i64 pk, .int .i64 pn, .string pt], L4.boxR (w.heap.size + 1 + 1) 41 #[.slice ra M rc], L4.boxR (w.heap.size + 1 + 1 + 1) 26 #[.string ⟨#[]⟩, .slice none 0 0, .int .i64 0], Sv.ownV 43 4 (some ⟨g9, 0, none⟩) c3 N (cellsI ys), L4.boxR g1 26 #[.string nm3, .slice (some ⟨g9, 0, none⟩) N c3, .int .i64 au3], Bag.bag (rowsI ys), Sv.ownV 43 4 a2' c2' k (cellsI (ys.take k)), Sv.ownV 107 2 a1 c1 M (cellsF rl)] from Sv.push_own S16.out hb ho)
                  clear S16
                  clear hb ho
                  go_wp2_with fail
                  refine hK.out _ _ ⟨Bag.cs3 S17.out 1 rfl, Bag.cs1 S17.out 2 rfl, HK.out _ S17.out.old⟩ (fun hS => ?_)
                  clear hK K
                  try simp only [zp0, zp1, zp2, zp3, zp4]
                  refine tk 4 rfl ?_
                  try simp only [zp0, zp1, zp2, zp3, zp4]
                  refine Reg.one_op (i := 5) rfl (by kernel_rfl) (fun K hK => ?_)
                  go_simp
                  have S18 := Lib.hid (show Sl.Sep w _ [L4.boxR w.heap.size 26 #[.string nm3, .slice (some ad) N c, .int .i64 au3], L4.boxR (w.heap.size + 1) 28 #[.int .i64 pk, .int .i64 pn, .string pt], L4.boxR (w.heap.size + 1 + 1) 41 #[.slice ra M rc], L4.boxR (w.heap.size + 1 + 1 + 1) 26 #[.string ⟨#[]⟩, .slice none 0 0, .int .i64 0], Sv.ownV 43 4 (some ⟨g9, 0, none⟩) c3 N (cellsI ys), L4.boxR g1 26 #[.string nm3, .slice (some ⟨g9, 0, none⟩) N c3, .int .i64 au3], Bag.bag (rowsI ys), Sv.ownV 43 4 a2' c2' k (cellsI (ys.take k)), Sv.ownV 107 2 a1 c1 M (cellsF rl), Sv.ownV 43 4 (some ⟨w11.heap.size, 0, none⟩) 1 1 ([.int .i64 pk, .int .i64 pn, .string pt, .slice a1 M c1])] from Sv.push_own S17.out ((Below.refl _ _).alloc (Nat.le_refl _) _) (OwnV.madeAt w11 43 4 1 w11.heap.size #[.int .i64 pk, .int .i64 pn, .string pt, .slice a1 M c1] rfl (Nat.le_refl _) rfl (by decide)))
                  clear S17
                  obtain ⟨g3, hg⟩ : ∃ g', g' = w11.heap.size := ⟨_, rfl⟩
                  rw [← hg] at S18 ⊢
                  clear hg
                  generalize w11.alloc (.cells #[.int .i64 pk, .int .i64 pn, .string pt, .slice a1 M c1] 43) = w12 at S18 ⊢
                  refine hK.out _ _ ⟨Bag.cs3 S18.out 1 rfl, Bag.cs1 S18.out 2 rfl, HK.out _ S18.out.old⟩ (fun hS => ?_)
                  clear hK K
                  try simp only [zp0, zp1, zp2, zp3, zp4]
                  refine Reg.one_op (i := 6) rfl (by kernel_rfl) (fun K hK => ?_)
                  refine Sv.step_append_s S18.out 7 rfl rfl _ _ 24 (by rfl) i0 (.agg #[.int .i64 0, .int .i64 0, .string ⟨#[]⟩, .slice none 0 0]) 56 Try.underlying24 HI.out.1 HI.out.2.1 HI.out.2.2.1 HI.out.2.2.2 rfl (by omega) _ (by rfl) rfl _ _ 1 _ _ ([.int .i64 pk, .int .i64 pn, .string pt, .slice a1 M c1]) (by rfl) rfl ((Sv.own_at S18.out 9 rfl).reads) rfl (by intro u hu; simp at hu; rcases hu with rfl | rfl | rfl | rfl <;> rfl) (by unfold maxLen; omega) (by omega) ?_
                  intro a4' c4' w13 hA
                  have S19 := Lib.hid (show Sl.Sep w _ [L4.boxR w.heap.size 26 #[.string nm3, .slice (some ad) N c, .int .i64 au3], L4.boxR (w.heap.size + 1) 28 #[.int .i64 pk, .int .i64 pn, .string pt], L4.boxR (w.heap.size + 1 + 1) 41 #[.slice ra M rc], L4.boxR (w.heap.size + 1 + 1 + 1) 26 #[.string ⟨#[]⟩, .slice none 0 0, .int .i64 0], Sv.ownV 43 4 (some ⟨g9, 0, none⟩) c3 N (cellsI ys), L4.boxR g1 26 #[.string nm3, .slice (some ⟨g9, 0, none⟩) N c3, .int .i64 au3], Bag.bag (rowsI ys), Sv.ownV 43 4 a4' c4' (k + 1) (cellsI (ys.take k) ++ ([.int .i64 pk, .int .i64 pn, .string pt, .slice a1 M c1])), Sv.ownV 107 2 a1 c1 M (cellsF rl), Sv.ownV 43 4 (some ⟨g3, 0, none⟩) 1 1 ([.int .i64 pk, .int .i64 pn, .string pt, .slice a1 M c1])] from hA)
                  clear S18
                  clear hA
                  refine hK.out _ _ ⟨Bag.cs3 S19.out 1 rfl, Bag.cs1 S19.out 2 rfl, HK.out _ S19.out.old⟩ (fun hS => ?_)
                  clear hK K
                  try simp only [zp0, zp1, zp2, zp3, zp4]
                  refine tk 7 rfl ?_
                  try simp only [zp0, zp1, zp2, zp3, zp4]
                  refine wpAnyH_done (by kernel_rfl) ?_ _
                  have hh := Bag.cs3 S19.out 0 rfl
                  have f0 := hh.1; have f1 := hh.2.1; have f2 := hh.2.2; clear hh
                  have hh := Bag.cs3 S19.out 1 rfl
                  have f3 := hh.1; have f4 := hh.2.1; have f5 := hh.2.2; clear hh
                  have f6 := Bag.cs1 S19.out 2 rfl
                  have hh := Bag.cs3 S19.out 3 rfl
                  have f7 := hh.1; have f8 := hh.2.1; have f9 := hh.2.2; clear hh
                  have hh := Bag.cs3 S19.out 5 rfl
                  have f10 := hh.1; have f11 := hh.2.1; have f12 := hh.2.2; clear hh
                  have hh := HK.out _ S19.out.old
                  have f13 := hh.1; have f14 := hh.2.1; have f15 := hh.2.2.1; have f16 := hh.2.2.2; clear hh
                  clear f0 f1 f2 f3 f4 f5 f6 f7 f8 f9 f10 f11 f12 f13 f14 f15 f16
                  have hh := Bag.cs3 S19.out 5 rfl
                  have f0 := hh.1; have f1 := hh.2.1; have f2 := hh.2.2; clear hh
                  have hh := HK.out _ S19.out.old
                  have f3 := hh.1; have f4 := hh.2.1; have f5 := hh.2.2.1; have f6 := hh.2.2.2; clear hh
                  have hcl := (Sv.own_at S19.out 4 rfl).cap
                  have hnl : ys.length ≤ c3 := by omega
                  have HNL := Lib.hid hnl
                  clear hnl hcl
                  have hkN : (k : Int) ≤ (N : Int) := by omega
                  have hNc : (N : Int) ≤ (c3 : Int) := by have := HNL.out; omega
                  go_upto_region 16 with (at_builtin; refine L5.wpList_append_v S19.out 7 rfl rfl _ _ 24 (by rfl) i0 (.agg #[.int .i64 0, .int .i64 0, .string ⟨#[]⟩, .slice none 0 0]) 56 Try.underlying24 HI.out.1 HI.out.2.1 HI.out.2.2.1 HI.out.2.2.2 rfl (by omega) _ (by rfl) rfl _ _ (N - k) _ _ (cellsI (ys.drop k)) (by rfl) rfl (reads_rest2 (Sv.own_at S19.out 4 rfl).reads k) (by rw [cellsI_length, List.length_drop, hyl]) (cellsI_one _) (by unfold maxLen; omega) (by omega) ?_; intro a5' c5' w14 hA; have SA := Lib.hid (show Sl.Sep w w14 [L4.boxR w.heap.size 26 #[.string nm3, .slice (some ad) N c, .int .i64 au3], L4.boxR (w.heap.size + 1) 28 #[.int .i64 pk, .int .i64 pn, .string pt], L4.boxR (w.heap.size + 1 + 1) 41 #[.slice ra M rc], L4.boxR (w.heap.size + 1 + 1 + 1) 26 #[.string ⟨#[]⟩, .slice none 0 0, .int .i64 0], Sv.ownV 43 4 (some ⟨g9, 0, none⟩) c3 N (cellsI ys), L4.boxR g1 26 #[.string nm3, .slice (some ⟨g9, 0, none⟩) N c3, .int .i64 au3], Bag.bag (rowsI ys), Sv.ownV 43 4 (a5') (c5') (k + 1 + (N - k)) ((cellsI (ys.take k) ++ ([.int .i64 pk, .int .i64 pn, .string pt, .slice a1 M c1])) ++ cellsI (ys.drop k)), Sv.ownV 107 2 a1 c1 M (cellsF rl), Sv.ownV 43 4 (some ⟨g3, 0, none⟩) 1 1 ([.int .i64 pk, .int .i64 pn, .string pt, .slice a1 M c1])] from hA); clear hA; have f0 : World.cell? _ ⟨g1, 1, none⟩ = some (.slice (some ⟨g9, 0, none⟩) N c3) := Bag.cell_at SA.out 5 rfl 1 rfl; have z1 := Bag.free_at SA.out 5 rfl 1)
                  have S20 := SA
                  clear SA S19 f0 z1
                  have S21 := Lib.hid (show Sl.Sep w _ [L4.boxR w.heap.size 26 #[.string nm3, .slice (some ad) N c, .int .i64 au3], L4.boxR (w.heap.size + 1) 28 #[.int .i64 pk, .int .i64 pn, .string pt], L4.boxR (w.heap.size + 1 + 1) 41 #[.slice ra M rc], L4.boxR (w.heap.size + 1 + 1 + 1) 26 #[.string ⟨#[]⟩, .slice none 0 0, .int .i64 0], Sv.ownV 43 4 (some ⟨g9, 0, none⟩) c3 N (cellsI ys), L4.boxR g1 26 #[.string nm3, .slice a5' (k + 1 + (N - k)) c5', .int .i64 au3], Bag.bag (rowsI ys), Sv.ownV 43 4 a5' c5' (k + 1 + (N - k)) ((cellsI (ys.take k) ++ ([.int .i64 pk, .int .i64 pn, .string pt, .slice a1 M c1])) ++ cellsI (ys.drop k)), Sv.ownV 107 2 a1 c1 M (cellsF rl), Sv.ownV 43 4 (some ⟨g3, 0, none⟩) 1 1 ([.int .i64 pk, .int .i64 pn, .string pt, .slice a1 M c1])] from L5.put_box5 (S20.out) 5 rfl 1 (.slice a5' (k + 1 + (N - k)) c5'))
                  clear S20
                  have S22 := Lib.hid (show Sl.Sep w _ [L4.boxR w.heap.size 26 #[.string nm3, .slice (some ad) N c, .int .i64 au3], L4.boxR (w.heap.size + 1) 28 #[.int .i64 pk, .int .i64 pn, .string pt], L4.boxR (w.heap.size + 1 + 1) 41 #[.slice ra M rc], L4.boxR (w.heap.size + 1 + 1 + 1) 26 #[.string ⟨#[]⟩, .slice none 0 0, .int .i64 0], L4.boxR g1 26 #[.string nm3, .slice a5' (k + 1 + (N - k)) c5', .int .i64 au3], Bag.bag (rowsI ys), Sv.ownV 43 4 a5' c5' (k + 1 + (N - k)) ((cellsI (ys.take k) ++ ([.int .i64 pk, .int .i64 pn, .string pt, .slice a1 M c1])) ++ cellsI (ys.drop k)), Sv.ownV 107 2 a1 c1 M (cellsF rl)] from Bag.take S21.out [0, 1, 2, 3, 5, 6, 7, 8] (by rfl) (by decide))
                  clear S21
                  obtain ⟨ba, hba⟩ : ∃ b, L1.inB pn (au3 + 1) 1000000 = b := ⟨_, rfl⟩
                  have HIA := fun w => L1.l1In_any pn (au3 + 1) 1000000 w
                  rw [hba] at HIA
                  replace HIA := Lib.hid HIA
                  have hau0 : 0 ≤ au3 := HAU.out.1
                  have hau1 : au3 ≤ 1000000 := HAU.out.2
                  have HBA := Lib.hid hba
                  clear hba
                  have hh := Bag.cs3 S22.out 0 rfl
                  have f0 := hh.1; have f1 := hh.2.1; have f2 := hh.2.2; clear hh
                  have hh := Bag.cs3 S22.out 1 rfl
                  have f3 := hh.1; have f4 := hh.2.1; have f5 := hh.2.2; clear hh
                  have f6 := Bag.cs1 S22.out 2 rfl
                  have hh := Bag.cs3 S22.out 3 rfl
                  have f7 := hh.1; have f8 := hh.2.1; have f9 := hh.2.2; clear hh
                  have hh := Bag.cs3 S22.out 4 rfl
                  have f10 := hh.1; have f11 := hh.2.1; have f12 := hh.2.2; clear hh
                  have hh := HK.out _ S22.out.old
                  have f13 := hh.1; have f14 := hh.2.1; have f15 := hh.2.2.1; have f16 := hh.2.2.2; clear hh
                  by_cases hk1 : pk = 1
                  · subst hk1
                    cases ba with
                    | false =>
                      go_wp2_with fail
                      go_at_call 71
                      refine (HIA.out _).mono ?_
                      rintro e w15 ⟨rfl, rfl⟩
                      clear f0 f1 f2 f3 f4 f5 f6 f7 f8 f9 f10 f11 f12 f13 f14 f15 f16
                      have hh := Bag.cs3 S22.out 0 rfl
                      have f0 := hh.1; have f1 := hh.2.1; have f2 := hh.2.2; clear hh
                      have hh := Bag.cs3 S22.out 1 rfl
                      have f3 := hh.1; have f4 := hh.2.1; have f5 := hh.2.2; clear hh
                      have f6 := Bag.cs1 S22.out 2 rfl
                      have hh := Bag.cs3 S22.out 3 rfl
                      have f7 := hh.1; have f8 := hh.2.1; have f9 := hh.2.2; clear hh
                      have hh := Bag.cs3 S22.out 4 rfl
                      have f10 := hh.1; have f11 := hh.2.1; have f12 := hh.2.2; clear hh
                      have hh := HK.out _ S22.out.old
                      have f13 := hh.1; have f14 := hh.2.1; have f15 := hh.2.2.1; have f16 := hh.2.2.2; clear hh
                      have hh := Bag.fs3 S22.out 3 rfl
                      have z0 := hh.1; have z1 := hh.2.1; have z2 := hh.2.2; clear hh
                      go_wp2_with fail
                      clear f0 f1 f2 f3 f4 f5 f6 f7 f8 f9 f10 f11 f12 f13 f14 f15 f16 z0 z1 z2
                      have S23 := Lib.hid (show Sl.Sep w _ [L4.boxR w.heap.size 26 #[.string nm3, .slice (some ad) N c, .int .i64 au3], L4.boxR (w.heap.size + 1) 28 #[.int .i64 1, .int .i64 pn, .string pt], L4.boxR (w.heap.size + 1 + 1) 41 #[.slice ra M rc], L4.boxR (w.heap.size + 1 + 1 + 1) 26 #[.string nm3, .slice a5' (k + 1 + (N - k)) c5', .int .i64 au3], L4.boxR g1 26 #[.string nm3, .slice a5' (k + 1 + (N - k)) c5', .int .i64 au3], Bag.bag (rowsI ys), Sv.ownV 43 4 a5' c5' (k + 1 + (N - k)) ((cellsI (ys.take k) ++ ([.int .i64 1, .int .i64 pn, .string pt, .slice a1 M c1])) ++ cellsI (ys.drop k)), Sv.ownV 107 2 a1 c1 M (cellsF rl)] from L5.put_box5 (L5.put_box5 (L5.put_box5 (S22.out) 3 rfl 0 (.string nm3)) 3 rfl 1 (.slice a5' (k + 1 + (N - k)) c5')) 3 rfl 2 (.int .i64 au3))
                      clear S22
                      have hh := Bag.cs3 S23.out 3 rfl
                      have f0 := hh.1; have f1 := hh.2.1; have f2 := hh.2.2; clear hh
                      have hh := HK.out _ S23.out.old
                      have f3 := hh.1; have f4 := hh.2.1; have f5 := hh.2.2.1; have f6 := hh.2.2.2; clear hh
                      refine bodyPost_ret (v := .tuple #[.agg #[.string nm3, .slice a5' (k + 1 + (N - k)) c5', .int .i64 au3], .bool true]) (by simp [results, Try.results134, go_sem, *]) rfl ?_
                      clear f0 f1 f2 f3 f4 f5 f6
                      have HX9 := Lib.hid (show nextAuto au3 ⟨1, pn, pt⟩ = au3 from by unfold nextAuto; dsimp only; rw [HBA.out, Bool.and_false]; rfl)
                      have hM := HM.out
                      subst hM
                      have S90 := Lib.hid (Bag.bag_of_one S23.out 7 (r := (LI.mk ⟨1, pn, pt⟩ a1 c1 rl).row) rfl)
                      have S91 := Lib.hid (Bag.bag_join S90.out 5 7 (by decide) rfl rfl)
                      have S92 := Lib.hid (Bag.bag_perm S91.out 5 rfl (rowsI_ins ys k ⟨⟨1, pn, pt⟩, a1, c1, rl⟩))
                      have hlz : (ys.take k ++ ⟨⟨1, pn, pt⟩, a1, c1, rl⟩ :: ys.drop k).length = k + 1 + (N - k) := by rw [List.length_append, List.length_cons, List.length_take, List.length_drop]; omega
                      have hcz : cellsI (ys.take k ++ ⟨⟨1, pn, pt⟩, a1, c1, rl⟩ :: ys.drop k) = (cellsI (ys.take k) ++ ([.int .i64 1, .int .i64 pn, .string pt, .slice a1 rl.length c1])) ++ cellsI (ys.drop k) := by rw [cellsI_append, cellsI_cons]; simp
                      have S93 := Lib.hid (Bag.bag_of_one S92.out 6 (r := rowI a5' c5' (ys.take k ++ ⟨⟨1, pn, pt⟩, a1, c1, rl⟩ :: ys.drop k)) (by unfold RowS.res rowI; dsimp only; rw [hlz, hcz]; rfl))
                      have S94 := Lib.hid (Bag.bag_join S93.out 6 5 (by decide) rfl rfl)
                      refine ⟨⟨nm3, a5', c5', ys.take k ++ ⟨⟨1, pn, pt⟩, a1, c1, rl⟩ :: ys.drop k, au3⟩, ?_, ?_, ?_, S94.out.old⟩
                      · rw [HE.out]; unfold LS.v LS.cells; dsimp only; rw [hlz]
                      · rw [HE.out, HX9.out, HPOS.out]; unfold LS.con; dsimp only; rw [conI_ins, HCE.out]; rfl
                      · have h := Bag.bag_from S94.out 6 rfl
                        unfold LS.rows; exact h
                    | true =>
                      go_wp2_with fail
                      go_at_call 71
                      refine (HIA.out _).mono ?_
                      rintro e w15 ⟨rfl, rfl⟩
                      clear f0 f1 f2 f3 f4 f5 f6 f7 f8 f9 f10 f11 f12 f13 f14 f15 f16
                      have hh := Bag.cs3 S22.out 0 rfl
                      have f0 := hh.1; have f1 := hh.2.1; have f2 := hh.2.2; clear hh
                      have hh := Bag.cs3 S22.out 1 rfl
                      have f3 := hh.1; have f4 := hh.2.1; have f5 := hh.2.2; clear hh
                      have f6 := Bag.cs1 S22.out 2 rfl
                      have hh := Bag.cs3 S22.out 3 rfl
                      have f7 := hh.1; have f8 := hh.2.1; have f9 := hh.2.2; clear hh
                      have hh := Bag.cs3 S22.out 4 rfl
                      have f10 := hh.1; have f11 := hh.2.1; have f12 := hh.2.2; clear hh
                      have hh := HK.out _ S22.out.old
                      have f13 := hh.1; have f14 := hh.2.1; have f15 := hh.2.2.1; have f16 := hh.2.2.2; clear hh
                      have hh := Bag.fs3 S22.out 4 rfl
                      have z0 := hh.1; have z1 := hh.2.1; have z2 := hh.2.2; clear hh
                      go_upto_region 18 with fail
                      clear f0 f1 f2 f3 f4 f5 f6 f7 f8 f9 f10 f11 f12 f13 f14 f15 f16 z0 z1 z2
                      have S23 := Lib.hid (show Sl.Sep w _ [L4.boxR w.heap.size 26 #[.string nm3, .slice (some ad) N c, .int .i64 au3], L4.boxR (w.heap.size + 1) 28 #[.int .i64 1, .int .i64 pn, .string pt], L4.boxR (w.heap.size + 1 + 1) 41 #[.slice ra M rc], L4.boxR (w.heap.size + 1 + 1 + 1) 26 #[.string ⟨#[]⟩, .slice none 0 0, .int .i64 0], L4.boxR g1 26 #[.string nm3, .slice a5' (k + 1 + (N - k)) c5', .int .i64 pn], Bag.bag (rowsI ys), Sv.ownV 43 4 a5' c5' (k + 1 + (N - k)) ((cellsI (ys.take k) ++ ([.int .i64 1, .int .i64 pn, .string pt, .slice a1 M c1])) ++ cellsI (ys.drop k)), Sv.ownV 107 2 a1 c1 M (cellsF rl)] from L5.put_box5 (S22.out) 4 rfl 2 (.int .i64 pn))
                      clear S22
                      have hh := Bag.cs3 S23.out 0 rfl
                      have f0 := hh.1; have f1 := hh.2.1; have f2 := hh.2.2; clear hh
                      have hh := Bag.cs3 S23.out 1 rfl
                      have f3 := hh.1; have f4 := hh.2.1; have f5 := hh.2.2; clear hh
                      have f6 := Bag.cs1 S23.out 2 rfl
                      have hh := Bag.cs3 S23.out 3 rfl
                      have f7 := hh.1; have f8 := hh.2.1; have f9 := hh.2.2; clear hh
                      have hh := Bag.cs3 S23.out 4 rfl
                      have f10 := hh.1; have f11 := hh.2.1; have f12 := hh.2.2; clear hh
                      have hh := HK.out _ S23.out.old
                      have f13 := hh.1; have f14 := hh.2.1; have f15 := hh.2.2.1; have f16 := hh.2.2.2; clear hh
                      have hh := Bag.fs3 S23.out 3 rfl
                      have z0 := hh.1; have z1 := hh.2.1; have z2 := hh.2.2; clear hh
                      go_wp2_with fail
                      clear f0 f1 f2 f3 f4 f5 f6 f7 f8 f9 f10 f11 f12 f13 f14 f15 f16 z0 z1 z2
                      have S24 := Lib.hid (show Sl.Sep w _ [L4.boxR w.heap.size 26 #[.string nm3, .slice (some ad) N c, .int .i64 au3], L4.boxR (w.heap.size + 1) 28 #[.int .i64 1, .int .i64 pn, .string pt], L4.boxR (w.heap.size + 1 + 1) 41 #[.slice ra M rc], L4.boxR (w.heap.size + 1 + 1 + 1) 26 #[.string nm3, .slice a5' (k + 1 + (N - k)) c5', .int .i64 pn], L4.boxR g1 26 #[.string nm3, .slice a5' (k + 1 + (N - k)) c5', .int .i64 pn], Bag.bag (rowsI ys), Sv.ownV 43 4 a5' c5' (k + 1 + (N - k)) ((cellsI (ys.take k) ++ ([.int .i64 1, .int .i64 pn, .string pt, .slice a1 M c1])) ++ cellsI (ys.drop k)), Sv.ownV 107 2 a1 c1 M (cellsF rl)] from L5.put_box5 (L5.put_box5 (L5.put_box5 (S23.out) 3 rfl 0 (.string nm3)) 3 rfl 1 (.slice a5' (k + 1 + (N - k)) c5')) 3 rfl 2 (.int .i64 pn))
                      clear S23
                      have hh := Bag.cs3 S24.out 3 rfl
                      have f0 := hh.1; have f1 := hh.2.1; have f2 := hh.2.2; clear hh
                      have hh := HK.out _ S24.out.old
                      have f3 := hh.1; have f4 := hh.2.1; have f5 := hh.2.2.1; have f6 := hh.2.2.2; clear hh
                      refine bodyPost_ret (v := .tuple #[.agg #[.string nm3, .slice a5' (k + 1 + (N - k)) c5', .int .i64 pn], .bool true]) (by simp [results, Try.results134, go_sem, *]) rfl ?_
                      clear f0 f1 f2 f3 f4 f5 f6
                      have HX9 := Lib.hid (show nextAuto au3 ⟨1, pn, pt⟩ = pn from by unfold nextAuto; dsimp only; rw [HBA.out]; rfl)
                      have hM := HM.out
                      subst hM
                      have S90 := Lib.hid (Bag.bag_of_one S24.out 7 (r := (LI.mk ⟨1, pn, pt⟩ a1 c1 rl).row) rfl)
                      have S91 := Lib.hid (Bag.bag_join S90.out 5 7 (by decide) rfl rfl)
                      have S92 := Lib.hid (Bag.bag_perm S91.out 5 rfl (rowsI_ins ys k ⟨⟨1, pn, pt⟩, a1, c1, rl⟩))
                      have hlz : (ys.take k ++ ⟨⟨1, pn, pt⟩, a1, c1, rl⟩ :: ys.drop k).length = k + 1 + (N - k) := by rw [List.length_append, List.length_cons, List.length_take, List.length_drop]; omega
                      have hcz : cellsI (ys.take k ++ ⟨⟨1, pn, pt⟩, a1, c1, rl⟩ :: ys.drop k) = (cellsI (ys.take k) ++ ([.int .i64 1, .int .i64 pn, .string pt, .slice a1 rl.length c1])) ++ cellsI (ys.drop k) := by rw [cellsI_append, cellsI_cons]; simp
                      have S93 := Lib.hid (Bag.bag_of_one S92.out 6 (r := rowI a5' c5' (ys.take k ++ ⟨⟨1, pn, pt⟩, a1, c1, rl⟩ :: ys.drop k)) (by unfold RowS.res rowI; dsimp only; rw [hlz, hcz]; rfl))
                      have S94 := Lib.hid (Bag.bag_join S93.out 6 5 (by decide) rfl rfl)
                      refine ⟨⟨nm3, a5', c5', ys.take k ++ ⟨⟨1, pn, pt⟩, a1, c1, rl⟩ :: ys.drop k, pn⟩, ?_, ?_, ?_, S94.out.old⟩
                      · rw [HE.out]; unfold LS.v LS.cells; dsimp only; rw [hlz]
                      · rw [HE.out, HX9.out, HPOS.out]; unfold LS.con; dsimp only; rw [conI_ins, HCE.out]; rfl
                      · have h := Bag.bag_from S94.out 6 rfl
                        unfold LS.rows; exact h
                  · have hk2 : (pk == 1) = false := by simpa using hk1
                    clear f0 f1 f2 f3 f4 f5 f6 f7 f8 f9 f10 f11 f12 f13 f14 f15 f16
                    have hh := Bag.cs3 S22.out 0 rfl
                    have f0 := hh.1; have f1 := hh.2.1; have f2 := hh.2.2; clear hh
                    have hh := Bag.cs3 S22.out 1 rfl
                    have f3 := hh.1; have f4 := hh.2.1; have f5 := hh.2.2; clear hh
                    have f6 := Bag.cs1 S22.out 2 rfl
                    have hh := Bag.cs3 S22.out 3 rfl
                    have f7 := hh.1; have f8 := hh.2.1; have f9 := hh.2.2; clear hh
                    have hh := Bag.cs3 S22.out 4 rfl
                    have f10 := hh.1; have f11 := hh.2.1; have f12 := hh.2.2; clear hh
                    have hh := HK.out _ S22.out.old
                    have f13 := hh.1; have f14 := hh.2.1; have f15 := hh.2.2.1; have f16 := hh.2.2.2; clear hh
                    have hh := Bag.fs3 S22.out 3 rfl
                    have z0 := hh.1; have z1 := hh.2.1; have z2 := hh.2.2; clear hh
                    go_wp2_with fail
                    clear f0 f1 f2 f3 f4 f5 f6 f7 f8 f9 f10 f11 f12 f13 f14 f15 f16 z0 z1 z2
                    have S23 := Lib.hid (show Sl.Sep w _ [L4.boxR w.heap.size 26 #[.string nm3, .slice (some ad) N c, .int .i64 au3], L4.boxR (w.heap.size + 1) 28 #[.int .i64 pk, .int .i64 pn, .string pt], L4.boxR (w.heap.size + 1 + 1) 41 #[.slice ra M rc], L4.boxR (w.heap.size + 1 + 1 + 1) 26 #[.string nm3, .slice a5' (k + 1 + (N - k)) c5', .int .i64 au3], L4.boxR g1 26 #[.string nm3, .slice a5' (k + 1 + (N - k)) c5', .int .i64 au3], Bag.bag (rowsI ys), Sv.ownV 43 4 a5' c5' (k + 1 + (N - k)) ((cellsI (ys.take k) ++ ([.int .i64 pk, .int .i64 pn, .string pt, .slice a1 M c1])) ++ cellsI (ys.drop k)), Sv.ownV 107 2 a1 c1 M (cellsF rl)] from L5.put_box5 (L5.put_box5 (L5.put_box5 (S22.out) 3 rfl 0 (.string nm3)) 3 rfl 1 (.slice a5' (k + 1 + (N - k)) c5')) 3 rfl 2 (.int .i64 au3))
                    clear S22
                    have hh := Bag.cs3 S23.out 3 rfl
                    have f0 := hh.1; have f1 := hh.2.1; have f2 := hh.2.2; clear hh
                    have hh := HK.out _ S23.out.old
                    have f3 := hh.1; have f4 := hh.2.1; have f5 := hh.2.2.1; have f6 := hh.2.2.2; clear hh
                    refine bodyPost_ret (v := .tuple #[.agg #[.string nm3, .slice a5' (k + 1 + (N - k)) c5', .int .i64 au3], .bool true]) (by simp [results, Try.results134, go_sem, *]) rfl ?_
                    clear f0 f1 f2 f3 f4 f5 f6
                    have HX9 := Lib.hid (show nextAuto au3 ⟨pk, pn, pt⟩ = au3 from by unfold nextAuto; dsimp only; rw [hk2]; rfl)
                    have hM := HM.out
                    subst hM
                    have S90 := Lib.hid (Bag.bag_of_one S23.out 7 (r := (LI.mk ⟨pk, pn, pt⟩ a1 c1 rl).row) rfl)
                    have S91 := Lib.hid (Bag.bag_join S90.out 5 7 (by decide) rfl rfl)
                    have S92 := Lib.hid (Bag.bag_perm S91.out 5 rfl (rowsI_ins ys k ⟨⟨pk, pn, pt⟩, a1, c1, rl⟩))
                    have hlz : (ys.take k ++ ⟨⟨pk, pn, pt⟩, a1, c1, rl⟩ :: ys.drop k).length = k + 1 + (N - k) := by rw [List.length_append, List.length_cons, List.length_take, List.length_drop]; omega
                    have hcz : cellsI (ys.take k ++ ⟨⟨pk, pn, pt⟩, a1, c1, rl⟩ :: ys.drop k) = (cellsI (ys.take k) ++ ([.int .i64 pk, .int .i64 pn, .string pt, .slice a1 rl.length c1])) ++ cellsI (ys.drop k) := by rw [cellsI_append, cellsI_cons]; simp
                    have S93 := Lib.hid (Bag.bag_of_one S92.out 6 (r := rowI a5' c5' (ys.take k ++ ⟨⟨pk, pn, pt⟩, a1, c1, rl⟩ :: ys.drop k)) (by unfold RowS.res rowI; dsimp only; rw [hlz, hcz]; rfl))
                    have S94 := Lib.hid (Bag.bag_join S93.out 6 5 (by decide) rfl rfl)
                    refine ⟨⟨nm3, a5', c5', ys.take k ++ ⟨⟨pk, pn, pt⟩, a1, c1, rl⟩ :: ys.drop k, au3⟩, ?_, ?_, ?_, S94.out.old⟩
                    · rw [HE.out]; unfold LS.v LS.cells; dsimp only; rw [hlz]
                    · rw [HE.out, HX9.out, HPOS.out]; unfold LS.con; dsimp only; rw [conI_ins, HCE.out]; rfl
                    · have h := Bag.bag_from S94.out 6 rfl
                      unfold LS.rows; exact h
              · skip
                have hge : ¬ (k : Int) < (N : Int) := hlt
                obtain rfl : k = N := by omega
                have HPOS := Lib.hid (posI_at (xs := conI xs) (k := ⟨pk, pn, pt⟩) k (by rw [conI_length]; have := HN.out; omega) HA.out (fun h => absurd h (by rw [conI_length]; have := HN.out; omega)))
                have hh := Bag.cs3 S11.out 0 rfl
                have f0 := hh.1; have f1 := hh.2.1; have f2 := hh.2.2; clear hh
                have hh := Bag.cs3 S11.out 1 rfl
                have f3 := hh.1; have f4 := hh.2.1; have f5 := hh.2.2; clear hh
                have f6 := Bag.cs1 S11.out 2 rfl
                have hh := Bag.cs3 S11.out 3 rfl
                have f7 := hh.1; have f8 := hh.2.1; have f9 := hh.2.2; clear hh
                have hh := Bag.cs3 S11.out 5 rfl
                have f10 := hh.1; have f11 := hh.2.1; have f12 := hh.2.2; clear hh
                go_upto_region 11 with fail
                clear f0 f1 f2 f3 f4 f5 f6 f7 f8 f9 f10 f11 f12
                refine wp_region_held_drew (S := (fun w' => (World.cell? w' ⟨w.heap.size, 0, none⟩ = some (.string nm3) ∧ World.cell? w' ⟨w.heap.size, 1, none⟩ = some (.slice a k c) ∧ World.cell? w' ⟨w.heap.size, 2, none⟩ = some (.int .i64 au3)) ∧ (World.cell? w' ⟨w.heap.size + 1, 0, none⟩ = some (.int .i64 pk) ∧ World.cell? w' ⟨w.heap.size + 1, 1, none⟩ = some (.int .i64 pn) ∧ World.cell? w' ⟨w.heap.size + 1, 2, none⟩ = some (.string pt)))) (by kernel_rfl) ⟨Bag.cs3 (Bag.drew1 S11.out) 0 rfl, Bag.cs3 (Bag.drew1 S11.out) 1 rfl⟩ (fun hS => ?_)
                have S12 := Lib.hid (show Sl.Sep w _ [L4.boxR w.heap.size 26 #[.string nm3, .slice a k c, .int .i64 au3], L4.boxR (w.heap.size + 1) 28 #[.int .i64 pk, .int .i64 pn, .string pt], L4.boxR (w.heap.size + 1 + 1) 41 #[.slice ra M rc], L4.boxR (w.heap.size + 1 + 1 + 1) 26 #[.string ⟨#[]⟩, .slice none 0 0, .int .i64 0], Sv.ownV 43 4 a3 c3 k (cellsI ys), L4.boxR g1 26 #[.string nm3, .slice a3 k c3, .int .i64 au3], Bag.bag (rowsI ys)] from Bag.drew1 S11.out)
                clear S11
                generalize World.drew _ = w7 at hS S12 ⊢
                refine tk 0 rfl ?_
                try simp only [zp0, zp1, zp2, zp3, zp4]
                refine tk 1 rfl ?_
                try simp only [zp0, zp1, zp2, zp3, zp4]
                refine tk 2 rfl ?_
                try simp only [zp0, zp1, zp2, zp3, zp4]
                refine tk 3 rfl ?_
                try simp only [zp0, zp1, zp2, zp3, zp4]
                refine tk 4 rfl ?_
                try simp only [zp0, zp1, zp2, zp3, zp4]
                refine tk 5 rfl ?_
                try simp only [zp0, zp1, zp2, zp3, zp4]
                refine sk 6 rfl ?_
                try simp only [zp0, zp1, zp2, zp3, zp4]
                refine sk 7 rfl ?_
                try simp only [zp0, zp1, zp2, zp3, zp4]
                refine sk 8 rfl ?_
                try simp only [zp0, zp1, zp2, zp3, zp4]
                refine sk 9 rfl ?_
                try simp only [zp0, zp1, zp2, zp3, zp4]
                refine sk 10 rfl ?_
                try simp only [zp0, zp1, zp2, zp3, zp4]
                refine sk 11 rfl ?_
                try simp only [zp0, zp1, zp2, zp3, zp4]
                refine sk 12 rfl ?_
                try simp only [zp0, zp1, zp2, zp3, zp4]
                refine Reg.skip_one (i := 13) rfl (by kernel_rfl) (by rfl) (by assumption) ?_
                try simp only [zp0, zp1, zp2, zp3, zp4]
                refine sk 14 rfl ?_
                try simp only [zp0, zp1, zp2, zp3, zp4]
                refine tk 15 rfl ?_
                try simp only [zp0, zp1, zp2, zp3, zp4]
                refine wpAnyH_done (by kernel_rfl) ?_ _
                have hh := Bag.cs3 S12.out 0 rfl
                have f0 := hh.1; have f1 := hh.2.1; have f2 := hh.2.2; clear hh
                have hh := Bag.cs3 S12.out 1 rfl
                have f3 := hh.1; have f4 := hh.2.1; have f5 := hh.2.2; clear hh
                have f6 := Bag.cs1 S12.out 2 rfl
                have hh := Bag.cs3 S12.out 3 rfl
                have f7 := hh.1; have f8 := hh.2.1; have f9 := hh.2.2; clear hh
                have hh := Bag.cs3 S12.out 5 rfl
                have f10 := hh.1; have f11 := hh.2.1; have f12 := hh.2.2; clear hh
                clear f0 f1 f2 f3 f4 f5 f6 f7 f8 f9 f10 f11 f12
                have hky : k ≤ ys.length := by omega
                have hck : (k : Int) ≤ (c3 : Int) := by have := (Sv.own_at S12.out 4 rfl).cap; omega
                have S13 := Lib.hid (show Sl.Sep w _ [L4.boxR w.heap.size 26 #[.string nm3, .slice a k c, .int .i64 au3], L4.boxR (w.heap.size + 1) 28 #[.int .i64 pk, .int .i64 pn, .string pt], L4.boxR (w.heap.size + 1 + 1) 41 #[.slice ra M rc], L4.boxR (w.heap.size + 1 + 1 + 1) 26 #[.string ⟨#[]⟩, .slice none 0 0, .int .i64 0], Sv.ownV 43 4 a3 c3 k (cellsI ys), L4.boxR g1 26 #[.string nm3, .slice a3 k c3, .int .i64 au3], Bag.bag (rowsI ys), Sv.ownV 43 4 (some ⟨w7.heap.size, 0, none⟩) 0 0 (cellsI [])] from Sv.push_own S12.out ((Below.refl _ _).alloc (Nat.le_refl _) _) (OwnV.madeAt w7 43 4 0 w7.heap.size #[] rfl (Nat.le_refl _) rfl (by decide)))
                clear S12
                have hh := Bag.cs3 S13.out 5 rfl
                have f0 := hh.1; have f1 := hh.2.1; have f2 := hh.2.2; clear hh
                go_wp2_with (at_builtin; refine L5.wpList_append_v S13.out 7 rfl rfl _ _ 24 (by rfl) i0 (.agg #[.int .i64 0, .int .i64 0, .string ⟨#[]⟩, .slice none 0 0]) 56 Try.underlying24 HI.out.1 HI.out.2.1 HI.out.2.2.1 HI.out.2.2.2 rfl (by omega) _ (by rfl) rfl _ _ k _ _ (cellsI (ys.take k)) (by rfl) rfl (reads_head (Sv.own_at S13.out 4 rfl).reads k) (by rw [cellsI_length, List.length_take, Nat.min_eq_left hky]) (cellsI_one _) (by unfold maxLen; omega) (by omega) ?_; intro a2' c2' w8 hA)
                clear f0 f1 f2
                have S14 := Lib.hid (show Sl.Sep w w8 [L4.boxR w.heap.size 26 #[.string nm3, .slice a k c, .int .i64 au3], L4.boxR (w.heap.size + 1) 28 #[.int .i64 pk, .int .i64 pn, .string pt], L4.boxR (w.heap.size + 1 + 1) 41 #[.slice ra M rc], L4.boxR (w.heap.size + 1 + 1 + 1) 26 #[.string ⟨#[]⟩, .slice none 0 0, .int .i64 0], Sv.ownV 43 4 a3 c3 k (cellsI ys), L4.boxR g1 26 #[.string nm3, .slice a3 k c3, .int .i64 au3], Bag.bag (rowsI ys), Sv.ownV 43 4 a2' c2' k (cellsI (ys.take k))] from (by have h := hA; rw [Nat.zero_add] at h; exact h))
                clear S13
                clear hA
                have hh := Bag.cs3 S14.out 0 rfl
                have f0 := hh.1; have f1 := hh.2.1; have f2 := hh.2.2; clear hh
                have hh := Bag.cs3 S14.out 1 rfl
                have f3 := hh.1; have f4 := hh.2.1; have f5 := hh.2.2; clear hh
                have f6 := Bag.cs1 S14.out 2 rfl
                have hh := Bag.cs3 S14.out 3 rfl
                have f7 := hh.1; have f8 := hh.2.1; have f9 := hh.2.2; clear hh
                have hh := Bag.cs3 S14.out 5 rfl
                have f10 := hh.1; have f11 := hh.2.1; have f12 := hh.2.2; clear hh
                go_upto_region 14 with fail
                clear f0 f1 f2 f3 f4 f5 f6 f7 f8 f9 f10 f11 f12
                refine wp_region_held_drew (S := (fun w' => (World.cell? w' ⟨w.heap.size + 1, 0, none⟩ = some (.int .i64 pk) ∧ World.cell? w' ⟨w.heap.size + 1, 1, none⟩ = some (.int .i64 pn) ∧ World.cell? w' ⟨w.heap.size + 1, 2, none⟩ = some (.string pt)) ∧ (World.cell? w' ⟨w.heap.size + 1 + 1, 0, none⟩ = some (.slice ra M rc)))) (by kernel_rfl) ⟨Bag.cs3 (Bag.drew1 S14.out) 1 rfl, Bag.cs1 (Bag.drew1 S14.out) 2 rfl⟩ (fun hS => ?_)
                have S15 := Lib.hid (show Sl.Sep w _ [L4.boxR w.heap.size 26 #[.string nm3, .slice a k c, .int .i64 au3], L4.boxR (w.heap.size + 1) 28 #[.int .i64 pk, .int .i64 pn, .string pt], L4.boxR (w.heap.size + 1 + 1) 41 #[.slice ra M rc], L4.boxR (w.heap.size + 1 + 1 + 1) 26 #[.string ⟨#[]⟩, .slice none 0 0, .int .i64 0], Sv.ownV 43 4 a3 c3 k (cellsI ys), L4.boxR g1 26 #[.string nm3, .slice a3 k c3, .int .i64 au3], Bag.bag (rowsI ys), Sv.ownV 43 4 a2' c2' k (cellsI (ys.take k))] from Bag.drew1 S14.out)
                clear S14
                generalize World.drew _ = w9 at hS S15 ⊢
                refine tk 0 rfl ?_
                try simp only [zp0, zp1, zp2, zp3, zp4]
                refine tk 1 rfl ?_
                try simp only [zp0, zp1, zp2, zp3, zp4]
                refine tk 2 rfl ?_
                try simp only [zp0, zp1, zp2, zp3, zp4]
                refine Reg.one_op (i := 3) rfl (by kernel_rfl) (fun K hK => ?_)
                go_simp
                go_at_call 128
                refine (HRC.out _ S15.out.old).mono ?_
                rintro e w10 ⟨a1, c1, rfl, ho, hb⟩
                have S16 := Lib.hid (show Sl.Sep w _ [L4.boxR w.heap.size 26 #[.string nm3, .slice a k c, .int .i64 au3], L4.boxR (w.heap.size + 1) 28 #[.int .i64 pk, .int .i64 pn, .string pt], L4.boxR (w.heap.size + 1 + 1) 41 #[.slice ra M rc], L4.boxR (w.heap.size + 1 + 1 + 1) 26 #[.string ⟨#[]⟩, .slice none 0 0, .int .i64 0], Sv.ownV 43 4 a3 c3 k (cellsI ys), L4.boxR g1 26 #[.string nm3, .slice a3 k c3, .int .i64 au3], Bag.bag (rowsI ys), Sv.ownV 43 4 a2' c2' k (cellsI (ys.take k)), Sv.ownV 107 2 a1 c1 M (cellsF rl)] from Sv.push_own S15.out hb ho)
                clear S15
                clear hb ho
                go_wp2_with fail
                refine hK.out _ _ ⟨Bag.cs3 S16.out 1 rfl, Bag.cs1 S16.out 2 rfl⟩ (fun hS => ?_)
                clear hK K
                try simp only [zp0, zp1, zp2, zp3, zp4]
                refine tk 4 rfl ?_
                try simp only [zp0, zp1, zp2, zp3, zp4]
                refine Reg.one_op (i := 5) rfl (by kernel_rfl) (fun K hK => ?_)
                go_simp
                have S17 := Lib.hid (show Sl.Sep w _ [L4.boxR w.heap.size 26 #[.string nm3, .slice a k c, .int .i64 au3], L4.boxR (w.heap.size + 1) 28 #[.int .i64 pk, .int .i64 pn, .string pt], L4.boxR (w.heap.size + 1 + 1) 41 #[.slice ra M rc], L4.boxR (w.heap.size + 1 + 1 + 1) 26 #[.string ⟨#[]⟩, .slice none 0 0, .int .i64 0], Sv.ownV 43 4 a3 c3 k (cellsI ys), L4.boxR g1 26 #[.string nm3, .slice a3 k c3, .int .i64 au3], Bag.bag (rowsI ys), Sv.ownV 43 4 a2' c2' k (cellsI (ys.take k)), Sv.ownV 107 2 a1 c1 M (cellsF rl), Sv.ownV 43 4 (some ⟨w10.heap.size, 0, none⟩) 1 1 ([.int .i64 pk, .int .i64 pn, .string pt, .slice a1 M c1])] from Sv.push_own S16.out ((Below.refl _ _).alloc (Nat.le_refl _) _) (OwnV.madeAt w10 43 4 1 w10.heap.size #[.int .i64 pk, .int .i64 pn, .string pt, .slice a1 M c1] rfl (Nat.le_refl _) rfl (by decide)))
                clear S16
                obtain ⟨g3, hg⟩ : ∃ g', g' = w10.heap.size := ⟨_, rfl⟩
                rw [← hg] at S17 ⊢
                clear hg
                generalize w10.alloc (.cells #[.int .i64 pk, .int .i64 pn, .string pt, .slice a1 M c1] 43) = w11 at S17 ⊢
                refine hK.out _ _ ⟨Bag.cs3 S17.out 1 rfl, Bag.cs1 S17.out 2 rfl⟩ (fun hS => ?_)
                clear hK K
                try simp only [zp0, zp1, zp2, zp3, zp4]
                refine Reg.one_op (i := 6) rfl (by kernel_rfl) (fun K hK => ?_)
                refine Sv.step_append_s S17.out 7 rfl rfl _ _ 24 (by rfl) i0 (.agg #[.int .i64 0, .int .i64 0, .string ⟨#[]⟩, .slice none 0 0]) 56 Try.underlying24 HI.out.1 HI.out.2.1 HI.out.2.2.1 HI.out.2.2.2 rfl (by omega) _ (by rfl) rfl _ _ 1 _ _ ([.int .i64 pk, .int .i64 pn, .string pt, .slice a1 M c1]) (by rfl) rfl ((Sv.own_at S17.out 9 rfl).reads) rfl (by intro u hu; simp at hu; rcases hu with rfl | rfl | rfl | rfl <;> rfl) (by unfold maxLen; omega) (by omega) ?_
                intro a4' c4' w12 hA
                have S18 := Lib.hid (show Sl.Sep w _ [L4.boxR w.heap.size 26 #[.string nm3, .slice a k c, .int .i64 au3], L4.boxR (w.heap.size + 1) 28 #[.int .i64 pk, .int .i64 pn, .string pt], L4.boxR (w.heap.size + 1 + 1) 41 #[.slice ra M rc], L4.boxR (w.heap.size + 1 + 1 + 1) 26 #[.string ⟨#[]⟩, .slice none 0 0, .int .i64 0], Sv.ownV 43 4 a3 c3 k (cellsI ys), L4.boxR g1 26 #[.string nm3, .slice a3 k c3, .int .i64 au3], Bag.bag (rowsI ys), Sv.ownV 43 4 a4' c4' (k + 1) (cellsI (ys.take k) ++ ([.int .i64 pk, .int .i64 pn, .string pt, .slice a1 M c1])), Sv.ownV 107 2 a1 c1 M (cellsF rl), Sv.ownV 43 4 (some ⟨g3, 0, none⟩) 1 1 ([.int .i64 pk, .int .i64 pn, .string pt, .slice a1 M c1])] from hA)
                clear S17
                clear hA
                refine hK.out _ _ ⟨Bag.cs3 S18.out 1 rfl, Bag.cs1 S18.out 2 rfl⟩ (fun hS => ?_)
                clear hK K
                try simp only [zp0, zp1, zp2, zp3, zp4]
                refine tk 7 rfl ?_
                try simp only [zp0, zp1, zp2, zp3, zp4]
                refine wpAnyH_done (by kernel_rfl) ?_ _
                have hh := Bag.cs3 S18.out 0 rfl
                have f0 := hh.1; have f1 := hh.2.1; have f2 := hh.2.2; clear hh
                have hh := Bag.cs3 S18.out 1 rfl
                have f3 := hh.1; have f4 := hh.2.1; have f5 := hh.2.2; clear hh
                have f6 := Bag.cs1 S18.out 2 rfl
                have hh := Bag.cs3 S18.out 3 rfl
                have f7 := hh.1; have f8 := hh.2.1; have f9 := hh.2.2; clear hh
                have hh := Bag.cs3 S18.out 5 rfl
                have f10 := hh.1; have f11 := hh.2.1; have f12 := hh.2.2; clear hh
                clear f0 f1 f2 f3 f4 f5 f6 f7 f8 f9 f10 f11 f12
                have hh := Bag.cs3 S18.out 5 rfl
                have f0 := hh.1; have f1 := hh.2.1; have f2 := hh.2.2; clear hh
                have hcl := (Sv.own_at S18.out 4 rfl).cap
                have hnl : ys.length ≤ c3 := by omega
                have HNL := Lib.hid hnl
                clear hnl hcl
                have hkN : (k : Int) ≤ (k : Int) := by omega
                have hNc : (k : Int) ≤ (c3 : Int) := by have := HNL.out; omega
                by_cases h9 : c3 = k
                · have h8 : (c3 = k) = True := eq_true h9
                  clear h9
                  go_upto_region 16 with (at_builtin; refine L5.wpList_append_v S18.out 7 rfl rfl _ _ 24 (by rfl) i0 (.agg #[.int .i64 0, .int .i64 0, .string ⟨#[]⟩, .slice none 0 0]) 56 Try.underlying24 HI.out.1 HI.out.2.1 HI.out.2.2.1 HI.out.2.2.2 rfl (by omega) _ (by rfl) rfl _ _ 0 _ _ (cellsI []) (by rfl) rfl (Sl.Reads.nil (B := 0)) rfl (cellsI_one _) (by unfold maxLen; omega) (by omega) ?_; intro a5' c5' w13 hA; have SA := Lib.hid (show Sl.Sep w w13 [L4.boxR w.heap.size 26 #[.string nm3, .slice a k c, .int .i64 au3], L4.boxR (w.heap.size + 1) 28 #[.int .i64 pk, .int .i64 pn, .string pt], L4.boxR (w.heap.size + 1 + 1) 41 #[.slice ra M rc], L4.boxR (w.heap.size + 1 + 1 + 1) 26 #[.string ⟨#[]⟩, .slice none 0 0, .int .i64 0], Sv.ownV 43 4 a3 c3 k (cellsI ys), L4.boxR g1 26 #[.string nm3, .slice a3 k c3, .int .i64 au3], Bag.bag (rowsI ys), Sv.ownV 43 4 (a5') (c5') (k + 1) ((cellsI (ys.take k) ++ ([.int .i64 pk, .int .i64 pn, .string pt, .slice a1 M c1])) ++ cellsI []), Sv.ownV 107 2 a1 c1 M (cellsF rl), Sv.ownV 43 4 (some ⟨g3, 0, none⟩) 1 1 ([.int .i64 pk, .int .i64 pn, .string pt, .slice a1 M c1])] from hA); clear hA; have f0 : World.cell? _ ⟨g1, 1, none⟩ = some (.slice a3 k c3) := Bag.cell_at SA.out 5 rfl 1 rfl; have z1 := Bag.free_at SA.out 5 rfl 1)
                  have S19 := SA
                  clear SA S18 f0 z1
                  have S20 := Lib.hid (show Sl.Sep w _ [L4.boxR w.heap.size 26 #[.string nm3, .slice a k c, .int .i64 au3], L4.boxR (w.heap.size + 1) 28 #[.int .i64 pk, .int .i64 pn, .string pt], L4.boxR (w.heap.size + 1 + 1) 41 #[.slice ra M rc], L4.boxR (w.heap.size + 1 + 1 + 1) 26 #[.string ⟨#[]⟩, .slice none 0 0, .int .i64 0], Sv.ownV 43 4 a3 c3 k (cellsI ys), L4.boxR g1 26 #[.string nm3, .slice a5' (k + 1) c5', .int .i64 au3], Bag.bag (rowsI ys), Sv.ownV 43 4 a5' c5' (k + 1) ((cellsI (ys.take k) ++ ([.int .i64 pk, .int .i64 pn, .string pt, .slice a1 M c1])) ++ cellsI []), Sv.ownV 107 2 a1 c1 M (cellsF rl), Sv.ownV 43 4 (some ⟨g3, 0, none⟩) 1 1 ([.int .i64 pk, .int .i64 pn, .string pt, .slice a1 M c1])] from L5.put_box5 (S19.out) 5 rfl 1 (.slice a5' (k + 1) c5'))
                  clear S19
                  have S21 := Lib.hid (show Sl.Sep w _ [L4.boxR w.heap.size 26 #[.string nm3, .slice a k c, .int .i64 au3], L4.boxR (w.heap.size + 1) 28 #[.int .i64 pk, .int .i64 pn, .string pt], L4.boxR (w.heap.size + 1 + 1) 41 #[.slice ra M rc], L4.boxR (w.heap.size + 1 + 1 + 1) 26 #[.string ⟨#[]⟩, .slice none 0 0, .int .i64 0], L4.boxR g1 26 #[.string nm3, .slice a5' (k + 1) c5', .int .i64 au3], Bag.bag (rowsI ys), Sv.ownV 43 4 a5' c5' (k + 1) ((cellsI (ys.take k) ++ ([.int .i64 pk, .int .i64 pn, .string pt, .slice a1 M c1])) ++ cellsI []), Sv.ownV 107 2 a1 c1 M (cellsF rl)] from Bag.take S20.out [0, 1, 2, 3, 5, 6, 7, 8] (by rfl) (by decide))
                  clear S20
                  obtain ⟨ba, hba⟩ : ∃ b, L1.inB pn (au3 + 1) 1000000 = b := ⟨_, rfl⟩
                  have HIA := fun w => L1.l1In_any pn (au3 + 1) 1000000 w
                  rw [hba] at HIA
                  replace HIA := Lib.hid HIA
                  have hau0 : 0 ≤ au3 := HAU.out.1
                  have hau1 : au3 ≤ 1000000 := HAU.out.2
                  have HBA := Lib.hid hba
                  clear hba
                  have hh := Bag.cs3 S21.out 0 rfl
                  have f0 := hh.1; have f1 := hh.2.1; have f2 := hh.2.2; clear hh
                  have hh := Bag.cs3 S21.out 1 rfl
                  have f3 := hh.1; have f4 := hh.2.1; have f5 := hh.2.2; clear hh
                  have f6 := Bag.cs1 S21.out 2 rfl
                  have hh := Bag.cs3 S21.out 3 rfl
                  have f7 := hh.1; have f8 := hh.2.1; have f9 := hh.2.2; clear hh
                  have hh := Bag.cs3 S21.out 4 rfl
                  have f10 := hh.1; have f11 := hh.2.1; have f12 := hh.2.2; clear hh
                  by_cases hk1 : pk = 1
                  · subst hk1
                    cases ba with
                    | false =>
                      go_wp2_with fail
                      go_at_call 71
                      refine (HIA.out _).mono ?_
                      rintro e w14 ⟨rfl, rfl⟩
                      clear f0 f1 f2 f3 f4 f5 f6 f7 f8 f9 f10 f11 f12
                      have hh := Bag.cs3 S21.out 0 rfl
                      have f0 := hh.1; have f1 := hh.2.1; have f2 := hh.2.2; clear hh
                      have hh := Bag.cs3 S21.out 1 rfl
                      have f3 := hh.1; have f4 := hh.2.1; have f5 := hh.2.2; clear hh
                      have f6 := Bag.cs1 S21.out 2 rfl
                      have hh := Bag.cs3 S21.out 3 rfl
                      have f7 := hh.1; have f8 := hh.2.1; have f9 := hh.2.2; clear hh
                      have hh := Bag.cs3 S21.out 4 rfl
                      have f10 := hh.1; have f11 := hh.2.1; have f12 := hh.2.2; clear hh
                      have hh := Bag.fs3 S21.out 3 rfl
                      have z0 := hh.1; have z1 := hh.2.1; have z2 := hh.2.2; clear hh
                      go_wp2_with fail
                      clear f0 f1 f2 f3 f4 f5 f6 f7 f8 f9 f10 f11 f12 z0 z1 z2
                      have S22 := Lib.hid (show Sl.Sep w _ [L4.boxR w.heap.size 26 #[.string nm3, .slice a k c, .int .i64 au3], L4.boxR (w.heap.size + 1) 28 #[.int .i64 1, .int .i64 pn, .string pt], L4.boxR (w.heap.size + 1 + 1) 41 #[.slice ra M rc], L4.boxR (w.heap.size + 1 + 1 + 1) 26 #[.string nm3, .slice a5' (k + 1) c5', .int .i64 au3], L4.boxR g1 26 #[.string nm3, .slice a5' (k + 1) c5', .int .i64 au3], Bag.bag (rowsI ys), Sv.ownV 43 4 a5' c5' (k + 1) ((cellsI (ys.take k) ++ ([.int .i64 1, .int .i64 pn, .string pt, .slice a1 M c1])) ++ cellsI []), Sv.ownV 107 2 a1 c1 M (cellsF rl)] from L5.put_box5 (L5.put_box5 (L5.put_box5 (S21.out) 3 rfl 0 (.string nm3)) 3 rfl 1 (.slice a5' (k + 1) c5')) 3 rfl 2 (.int .i64 au3))
                      clear S21
                      have hh := Bag.cs3 S22.out 3 rfl
                      have f0 := hh.1; have f1 := hh.2.1; have f2 := hh.2.2; clear hh
                      refine bodyPost_ret (v := .tuple #[.agg #[.string nm3, .slice a5' (k + 1) c5', .int .i64 au3], .bool true]) (by simp [results, Try.results134, go_sem, *]) rfl ?_
                      clear f0 f1 f2
                      have HX9 := Lib.hid (show nextAuto au3 ⟨1, pn, pt⟩ = au3 from by unfold nextAuto; dsimp only; rw [HBA.out, Bool.and_false]; rfl)
                      have hM := HM.out
                      subst hM
                      have S90 := Lib.hid (Bag.bag_of_one S22.out 7 (r := (LI.mk ⟨1, pn, pt⟩ a1 c1 rl).row) rfl)
                      have S91 := Lib.hid (Bag.bag_join S90.out 5 7 (by decide) rfl rfl)
                      have S92 := Lib.hid (Bag.bag_perm S91.out 5 rfl (rowsI_ins ys k ⟨⟨1, pn, pt⟩, a1, c1, rl⟩))
                      have hlz : (ys.take k ++ ⟨⟨1, pn, pt⟩, a1, c1, rl⟩ :: ys.drop k).length = k + 1 := by rw [List.length_append, List.length_cons, List.length_take, List.length_drop]; omega
                      have hcz : cellsI (ys.take k ++ ⟨⟨1, pn, pt⟩, a1, c1, rl⟩ :: ys.drop k) = (cellsI (ys.take k) ++ ([.int .i64 1, .int .i64 pn, .string pt, .slice a1 rl.length c1])) ++ cellsI [] := by rw [cellsI_append, cellsI_cons]; rw [List.drop_of_length_le (show ys.length ≤ k by omega)]; simp [cellsI]
                      have S93 := Lib.hid (Bag.bag_of_one S92.out 6 (r := rowI a5' c5' (ys.take k ++ ⟨⟨1, pn, pt⟩, a1, c1, rl⟩ :: ys.drop k)) (by unfold RowS.res rowI; dsimp only; rw [hlz, hcz]; rfl))
                      have S94 := Lib.hid (Bag.bag_join S93.out 6 5 (by decide) rfl rfl)
                      refine ⟨⟨nm3, a5', c5', ys.take k ++ ⟨⟨1, pn, pt⟩, a1, c1, rl⟩ :: ys.drop k, au3⟩, ?_, ?_, ?_, S94.out.old⟩
                      · rw [HE.out]; unfold LS.v LS.cells; dsimp only; rw [hlz]
                      · rw [HE.out, HX9.out, HPOS.out]; unfold LS.con; dsimp only; rw [conI_ins, HCE.out]; rfl
                      · have h := Bag.bag_from S94.out 6 rfl
                        unfold LS.rows; exact h
                    | true =>
                      go_wp2_with fail
                      go_at_call 71
                      refine (HIA.out _).mono ?_
                      rintro e w14 ⟨rfl, rfl⟩
                      clear f0 f1 f2 f3 f4 f5 f6 f7 f8 f9 f10 f11 f12
                      have hh := Bag.cs3 S21.out 0 rfl
                      have f0 := hh.1; have f1 := hh.2.1; have f2 := hh.2.2; clear hh
                      have hh := Bag.cs3 S21.out 1 rfl
                      have f3 := hh.1; have f4 := hh.2.1; have f5 := hh.2.2; clear hh
                      have f6 := Bag.cs1 S21.out 2 rfl
                      have hh := Bag.cs3 S21.out 3 rfl
                      have f7 := hh.1; have f8 := hh.2.1; have f9 := hh.2.2; clear hh
                      have hh := Bag.cs3 S21.out 4 rfl
                      have f10 := hh.1; have f11 := hh.2.1; have f12 := hh.2.2; clear hh
                      have hh := Bag.fs3 S21.out 4 rfl
                      have z0 := hh.1; have z1 := hh.2.1; have z2 := hh.2.2; clear hh
                      go_upto_region 18 with fail
                      clear f0 f1 f2 f3 f4 f5 f6 f7 f8 f9 f10 f11 f12 z0 z1 z2
                      have S22 := Lib.hid (show Sl.Sep w _ [L4.boxR w.heap.size 26 #[.string nm3, .slice a k c, .int .i64 au3], L4.boxR (w.heap.size + 1) 28 #[.int .i64 1, .int .i64 pn, .string pt], L4.boxR (w.heap.size + 1 + 1) 41 #[.slice ra M rc], L4.boxR (w.heap.size + 1 + 1 + 1) 26 #[.string ⟨#[]⟩, .slice none 0 0, .int .i64 0], L4.boxR g1 26 #[.string nm3, .slice a5' (k + 1) c5', .int .i64 pn], Bag.bag (rowsI ys), Sv.ownV 43 4 a5' c5' (k + 1) ((cellsI (ys.take k) ++ ([.int .i64 1, .int .i64 pn, .string pt, .slice a1 M c1])) ++ cellsI []), Sv.ownV 107 2 a1 c1 M (cellsF rl)] from L5.put_box5 (S21.out) 4 rfl 2 (.int .i64 pn))
                      clear S21
                      have hh := Bag.cs3 S22.out 0 rfl
                      have f0 := hh.1; have f1 := hh.2.1; have f2 := hh.2.2; clear hh
                      have hh := Bag.cs3 S22.out 1 rfl
                      have f3 := hh.1; have f4 := hh.2.1; have f5 := hh.2.2; clear hh
                      have f6 := Bag.cs1 S22.out 2 rfl
                      have hh := Bag.cs3 S22.out 3 rfl
                      have f7 := hh.1; have f8 := hh.2.1; have f9 := hh.2.2; clear hh
                      have hh := Bag.cs3 S22.out 4 rfl
                      have f10 := hh.1; have f11 := hh.2.1; have f12 := hh.2.2; clear hh
                      have hh := Bag.fs3 S22.out 3 rfl
                      have z0 := hh.1; have z1 := hh.2.1; have z2 := hh.2.2; clear hh
                      go_wp2_with fail
                      clear f0 f1 f2 f3 f4 f5 f6 f7 f8 f9 f10 f11 f12 z0 z1 z2
                      have S23 := Lib.hid (show Sl.Sep w _ [L4.boxR w.heap.size 26 #[.string nm3, .slice a k c, .int .i64 au3], L4.boxR (w.heap.size + 1) 28 #[.int .i64 1, .int .i64 pn, .string pt], L4.boxR (w.heap.size + 1 + 1) 41 #[.slice ra M rc], L4.boxR (w.heap.size + 1 + 1 + 1) 26 #[.string nm3, .slice a5' (k + 1) c5', .int .i64 pn], L4.boxR g1 26 #[.string nm3, .slice a5' (k + 1) c5', .int .i64 pn], Bag.bag (rowsI ys), Sv.ownV 43 4 a5' c5' (k + 1) ((cellsI (ys.take k) ++ ([.int .i64 1, .int .i64 pn, .string pt, .slice a1 M c1])) ++ cellsI []), Sv.ownV 107 2 a1 c1 M (cellsF rl)] from L5.put_box5 (L5.put_box5 (L5.put_box5 (S22.out) 3 rfl 0 (.string nm3)) 3 rfl 1 (.slice a5' (k + 1) c5')) 3 rfl 2 (.int .i64 pn))
                      clear S22
                      have hh := Bag.cs3 S23.out 3 rfl
                      have f0 := hh.1; have f1 := hh.2.1; have f2 := hh.2.2; clear hh
                      refine bodyPost_ret (v := .tuple #[.agg #[.string nm3, .slice a5' (k + 1) c5', .int .i64 pn], .bool true]) (by simp [results, Try.results134, go_sem, *]) rfl ?_
                      clear f0 f1 f2
                      have HX9 := Lib.hid (show nextAuto au3 ⟨1, pn, pt⟩ = pn from by unfold nextAuto; dsimp only; rw [HBA.out]; rfl)
                      have hM := HM.out
                      subst hM
                      have S90 := Lib.hid (Bag.bag_of_one S23.out 7 (r := (LI.mk ⟨1, pn, pt⟩ a1 c1 rl).row) rfl)
                      have S91 := Lib.hid (Bag.bag_join S90.out 5 7 (by decide) rfl rfl)
                      have S92 := Lib.hid (Bag.bag_perm S91.out 5 rfl (rowsI_ins ys k ⟨⟨1, pn, pt⟩, a1, c1, rl⟩))
                      have hlz : (ys.take k ++ ⟨⟨1, pn, pt⟩, a1, c1, rl⟩ :: ys.drop k).length = k + 1 := by rw [List.length_append, List.length_cons, List.length_take, List.length_drop]; omega
                      have hcz : cellsI (ys.take k ++ ⟨⟨1, pn, pt⟩, a1, c1, rl⟩ :: ys.drop k) = (cellsI (ys.take k) ++ ([.int .i64 1, .int .i64 pn, .string pt, .slice a1 rl.length c1])) ++ cellsI [] := by rw [cellsI_append, cellsI_cons]; rw [List.drop_of_length_le (show ys.length ≤ k by omega)]; simp [cellsI]
                      have S93 := Lib.hid (Bag.bag_of_one S92.out 6 (r := rowI a5' c5' (ys.take k ++ ⟨⟨1, pn, pt⟩, a1, c1, rl⟩ :: ys.drop k)) (by unfold RowS.res rowI; dsimp only; rw [hlz, hcz]; rfl))
                      have S94 := Lib.hid (Bag.bag_join S93.out 6 5 (by decide) rfl rfl)
                      refine ⟨⟨nm3, a5', c5', ys.take k ++ ⟨⟨1, pn, pt⟩, a1, c1, rl⟩ :: ys.drop k, pn⟩, ?_, ?_, ?_, S94.out.old⟩
                      · rw [HE.out]; unfold LS.v LS.cells; dsimp only; rw [hlz]
                      · rw [HE.out, HX9.out, HPOS.out]; unfold LS.con; dsimp only; rw [conI_ins, HCE.out]; rfl
                      · have h := Bag.bag_from S94.out 6 rfl
                        unfold LS.rows; exact h
                  · have hk2 : (pk == 1) = false := by simpa using hk1
                    clear f0 f1 f2 f3 f4 f5 f6 f7 f8 f9 f10 f11 f12
                    have hh := Bag.cs3 S21.out 0 rfl
                    have f0 := hh.1; have f1 := hh.2.1; have f2 := hh.2.2; clear hh
                    have hh := Bag.cs3 S21.out 1 rfl
                    have f3 := hh.1; have f4 := hh.2.1; have f5 := hh.2.2; clear hh
                    have f6 := Bag.cs1 S21.out 2 rfl
                    have hh := Bag.cs3 S21.out 3 rfl
                    have f7 := hh.1; have f8 := hh.2.1; have f9 := hh.2.2; clear hh
                    have hh := Bag.cs3 S21.out 4 rfl
                    have f10 := hh.1; have f11 := hh.2.1; have f12 := hh.2.2; clear hh
                    have hh := Bag.fs3 S21.out 3 rfl
                    have z0 := hh.1; have z1 := hh.2.1; have z2 := hh.2.2; clear hh
                    go_wp2_with fail
                    clear f0 f1 f2 f3 f4 f5 f6 f7 f8 f9 f10 f11 f12 z0 z1 z2
                    have S22 := Lib.hid (show Sl.Sep w _ [L4.boxR w.heap.size 26 #[.string nm3, .slice a k c, .int .i64 au3], L4.boxR (w.heap.size + 1) 28 #[.int .i64 pk, .int .i64 pn, .string pt], L4.boxR (w.heap.size + 1 + 1) 41 #[.slice ra M rc], L4.boxR (w.heap.size + 1 + 1 + 1) 26 #[.string nm3, .slice a5' (k + 1) c5', .int .i64 au3], L4.boxR g1 26 #[.string nm3, .slice a5' (k + 1) c5', .int .i64 au3], Bag.bag (rowsI ys), Sv.ownV 43 4 a5' c5' (k + 1) ((cellsI (ys.take k) ++ ([.int .i64 pk, .int .i64 pn, .string pt, .slice a1 M c1])) ++ cellsI []), Sv.ownV 107 2 a1 c1 M (cellsF rl)] from L5.put_box5 (L5.put_box5 (L5.put_box5 (S21.out) 3 rfl 0 (.string nm3)) 3 rfl 1 (.slice a5' (k + 1) c5')) 3 rfl 2 (.int .i64 au3))
                    clear S21
                    have hh := Bag.cs3 S22.out 3 rfl
                    have f0 := hh.1; have f1 := hh.2.1; have f2 := hh.2.2; clear hh
                    refine bodyPost_ret (v := .tuple #[.agg #[.string nm3, .slice a5' (k + 1) c5', .int .i64 au3], .bool true]) (by simp [results, Try.results134, go_sem, *]) rfl ?_
                    clear f0 f1 f2
                    have HX9 := Lib.hid (show nextAuto au3 ⟨pk, pn, pt⟩ = au3 from by unfold nextAuto; dsimp only; rw [hk2]; rfl)
                    have hM := HM.out
                    subst hM
                    have S90 := Lib.hid (Bag.bag_of_one S22.out 7 (r := (LI.mk ⟨pk, pn, pt⟩ a1 c1 rl).row) rfl)
                    have S91 := Lib.hid (Bag.bag_join S90.out 5 7 (by decide) rfl rfl)
                    have S92 := Lib.hid (Bag.bag_perm S91.out 5 rfl (rowsI_ins ys k ⟨⟨pk, pn, pt⟩, a1, c1, rl⟩))
                    have hlz : (ys.take k ++ ⟨⟨pk, pn, pt⟩, a1, c1, rl⟩ :: ys.drop k).length = k + 1 := by rw [List.length_append, List.length_cons, List.length_take, List.length_drop]; omega
                    have hcz : cellsI (ys.take k ++ ⟨⟨pk, pn, pt⟩, a1, c1, rl⟩ :: ys.drop k) = (cellsI (ys.take k) ++ ([.int .i64 pk, .int .i64 pn, .string pt, .slice a1 rl.length c1])) ++ cellsI [] := by rw [cellsI_append, cellsI_cons]; rw [List.drop_of_length_le (show ys.length ≤ k by omega)]; simp [cellsI]
                    have S93 := Lib.hid (Bag.bag_of_one S92.out 6 (r := rowI a5' c5' (ys.take k ++ ⟨⟨pk, pn, pt⟩, a1, c1, rl⟩ :: ys.drop k)) (by unfold RowS.res rowI; dsimp only; rw [hlz, hcz]; rfl))
                    have S94 := Lib.hid (Bag.bag_join S93.out 6 5 (by decide) rfl rfl)
                    refine ⟨⟨nm3, a5', c5', ys.take k ++ ⟨⟨pk, pn, pt⟩, a1, c1, rl⟩ :: ys.drop k, au3⟩, ?_, ?_, ?_, S94.out.old⟩
                    · rw [HE.out]; unfold LS.v LS.cells; dsimp only; rw [hlz]
                    · rw [HE.out, HX9.out, HPOS.out]; unfold LS.con; dsimp only; rw [conI_ins, HCE.out]; rfl
                    · have h := Bag.bag_from S94.out 6 rfl
                      unfold LS.rows; exact h
                · have h8 : (c3 = k) = False := eq_false h9
                  clear h9
                  go_upto_region 16 with (at_builtin; refine L5.wpList_append_v S18.out 7 rfl rfl _ _ 24 (by rfl) i0 (.agg #[.int .i64 0, .int .i64 0, .string ⟨#[]⟩, .slice none 0 0]) 56 Try.underlying24 HI.out.1 HI.out.2.1 HI.out.2.2.1 HI.out.2.2.2 rfl (by omega) _ (by rfl) rfl _ _ 0 _ _ (cellsI []) (by rfl) rfl (Sl.Reads.nil (B := 0)) rfl (cellsI_one _) (by unfold maxLen; omega) (by omega) ?_; intro a5' c5' w13 hA; have SA := Lib.hid (show Sl.Sep w w13 [L4.boxR w.heap.size 26 #[.string nm3, .slice a k c, .int .i64 au3], L4.boxR (w.heap.size + 1) 28 #[.int .i64 pk, .int .i64 pn, .string pt], L4.boxR (w.heap.size + 1 + 1) 41 #[.slice ra M rc], L4.boxR (w.heap.size + 1 + 1 + 1) 26 #[.string ⟨#[]⟩, .slice none 0 0, .int .i64 0], Sv.ownV 43 4 a3 c3 k (cellsI ys), L4.boxR g1 26 #[.string nm3, .slice a3 k c3, .int .i64 au3], Bag.bag (rowsI ys), Sv.ownV 43 4 (a5') (c5') (k + 1) ((cellsI (ys.take k) ++ ([.int .i64 pk, .int .i64 pn, .string pt, .slice a1 M c1])) ++ cellsI []), Sv.ownV 107 2 a1 c1 M (cellsF rl), Sv.ownV 43 4 (some ⟨g3, 0, none⟩) 1 1 ([.int .i64 pk, .int .i64 pn, .string pt, .slice a1 M c1])] from hA); clear hA; have f0 : World.cell? _ ⟨g1, 1, none⟩ = some (.slice a3 k c3) := Bag.cell_at SA.out 5 rfl 1 rfl; have z1 := Bag.free_at SA.out 5 rfl 1)
                  have S19 := SA
                  clear SA S18 f0 z1
                  have S20 := Lib.hid (show Sl.Sep w _ [L4.boxR w.heap.size 26 #[.string nm3, .slice a k c, .int .i64 au3], L4.boxR (w.heap.size + 1) 28 #[.int .i64 pk, .int .i64 pn, .string pt], L4.boxR (w.heap.size + 1 + 1) 41 #[.slice ra M rc], L4.boxR (w.heap.size + 1 + 1 + 1) 26 #[.string ⟨#[]⟩, .slice none 0 0, .int .i64 0], Sv.ownV 43 4 a3 c3 k (cellsI ys), L4.boxR g1 26 #[.string nm3, .slice a5' (k + 1) c5', .int .i64 au3], Bag.bag (rowsI ys), Sv.ownV 43 4 a5' c5' (k + 1) ((cellsI (ys.take k) ++ ([.int .i64 pk, .int .i64 pn, .string pt, .slice a1 M c1])) ++ cellsI []), Sv.ownV 107 2 a1 c1 M (cellsF rl), Sv.ownV 43 4 (some ⟨g3, 0, none⟩) 1 1 ([.int .i64 pk, .int .i64 pn, .string pt, .slice a1 M c1])] from L5.put_box5 (S19.out) 5 rfl 1 (.slice a5' (k + 1) c5'))
                  clear S19
                  have S21 := Lib.hid (show Sl.Sep w _ [L4.boxR w.heap.size 26 #[.string nm3, .slice a k c, .int .i64 au3], L4.boxR (w.heap.size + 1) 28 #[.int .i64 pk, .int .i64 pn, .string pt], L4.boxR (w.heap.size + 1 + 1) 41 #[.slice ra M rc], L4.boxR (w.heap.size + 1 + 1 + 1) 26 #[.string ⟨#[]⟩, .slice none 0 0, .int .i64 0], L4.boxR g1 26 #[.string nm3, .slice a5' (k + 1) c5', .int .i64 au3], Bag.bag (rowsI ys), Sv.ownV 43 4 a5' c5' (k + 1) ((cellsI (ys.take k) ++ ([.int .i64 pk, .int .i64 pn, .string pt, .slice a1 M c1])) ++ cellsI []), Sv.ownV 107 2 a1 c1 M (cellsF rl)] from Bag.take S20.out [0, 1, 2, 3, 5, 6, 7, 8] (by rfl) (by decide))
                  clear S20
                  obtain ⟨ba, hba⟩ : ∃ b, L1.inB pn (au3 + 1) 1000000 = b := ⟨_, rfl⟩
                  have HIA := fun w => L1.l1In_any pn (au3 + 1) 1000000 w
                  rw [hba] at HIA
                  replace HIA := Lib.hid HIA
                  have hau0 : 0 ≤ au3 := HAU.out.1
                  have hau1 : au3 ≤ 1000000 := HAU.out.2
                  have HBA := Lib.hid hba
                  clear hba
                  have hh := Bag.cs3 S21.out 0 rfl
                  have f0 := hh.1; have f1 := hh.2.1; have f2 := hh.2.2; clear hh
                  have hh := Bag.cs3 S21.out 1 rfl
                  have f3 := hh.1; have f4 := hh.2.1; have f5 := hh.2.2; clear hh
                  have f6 := Bag.cs1 S21.out 2 rfl
                  have hh := Bag.cs3 S21.out 3 rfl
                  have f7 := hh.1; have f8 := hh.2.1; have f9 := hh.2.2; clear hh
                  have hh := Bag.cs3 S21.out 4 rfl
                  have f10 := hh.1; have f11 := hh.2.1; have f12 := hh.2.2; clear hh
                  by_cases hk1 : pk = 1
                  · subst hk1
                    cases ba with
                    | false =>
                      go_wp2_with fail
                      go_at_call 71
                      refine (HIA.out _).mono ?_
                      rintro e w14 ⟨rfl, rfl⟩
                      clear f0 f1 f2 f3 f4 f5 f6 f7 f8 f9 f10 f11 f12
                      have hh := Bag.cs3 S21.out 0 rfl
                      have f0 := hh.1; have f1 := hh.2.1; have f2 := hh.2.2; clear hh
                      have hh := Bag.cs3 S21.out 1 rfl
                      have f3 := hh.1; have f4 := hh.2.1; have f5 := hh.2.2; clear hh
                      have f6 := Bag.cs1 S21.out 2 rfl
                      have hh := Bag.cs3 S21.out 3 rfl
                      have f7 := hh.1; have f8 := hh.2.1; have f9 := hh.2.2; clear hh
                      have hh := Bag.cs3 S21.out 4 rfl
                      have f10 := hh.1; have f11 := hh.2.1; have f12 := hh.2.2; clear hh
                      have hh := Bag.fs3 S21.out 3 rfl
                      have z0 := hh.1; have z1 := hh.2.1; have z2 := hh.2.2; clear hh
                      go_wp2_with fail
                      clear f0 f1 f2 f3 f4 f5 f6 f7 f8 f9 f10 f11 f12 z0 z1 z2
                      have S22 := Lib.hid (show Sl.Sep w _ [L4.boxR w.heap.size 26 #[.string nm3, .slice a k c, .int .i64 au3], L4.boxR (w.heap.size + 1) 28 #[.int .i64 1, .int .i64 pn, .string pt], L4.boxR (w.heap.size + 1 + 1) 41 #[.slice ra M rc], L4.boxR (w.heap.size + 1 + 1 + 1) 26 #[.string nm3, .slice a5' (k + 1) c5', .int .i64 au3], L4.boxR g1 26 #[.string nm3, .slice a5' (k + 1) c5', .int .i64 au3], Bag.bag (rowsI ys), Sv.ownV 43 4 a5' c5' (k + 1) ((cellsI (ys.take k) ++ ([.int .i64 1, .int .i64 pn, .string pt, .slice a1 M c1])) ++ cellsI []), Sv.ownV 107 2 a1 c1 M (cellsF rl)] from L5.put_box5 (L5.put_box5 (L5.put_box5 (S21.out) 3 rfl 0 (.string nm3)) 3 rfl 1 (.slice a5' (k + 1) c5')) 3 rfl 2 (.int .i64 au3))
                      clear S21
                      have hh := Bag.cs3 S22.out 3 rfl
                      have f0 := hh.1; have f1 := hh.2.1; have f2 := hh.2.2; clear hh
                      refine bodyPost_ret (v := .tuple #[.agg #[.string nm3, .slice a5' (k + 1) c5', .int .i64 au3], .bool true]) (by simp [results, Try.results134, go_sem, *]) rfl ?_
                      clear f0 f1 f2
                      have HX9 := Lib.hid (show nextAuto au3 ⟨1, pn, pt⟩ = au3 from by unfold nextAuto; dsimp only; rw [HBA.out, Bool.and_false]; rfl)
                      have hM := HM.out
                      subst hM
                      have S90 := Lib.hid (Bag.bag_of_one S22.out 7 (r := (LI.mk ⟨1, pn, pt⟩ a1 c1 rl).row) rfl)
                      have S91 := Lib.hid (Bag.bag_join S90.out 5 7 (by decide) rfl rfl)
                      have S92 := Lib.hid (Bag.bag_perm S91.out 5 rfl (rowsI_ins ys k ⟨⟨1, pn, pt⟩, a1, c1, rl⟩))
                      have hlz : (ys.take k ++ ⟨⟨1, pn, pt⟩, a1, c1, rl⟩ :: ys.drop k).length = k + 1 := by rw [List.length_append, List.length_cons, List.length_take, List.length_drop]; omega
                      have hcz : cellsI (ys.take k ++ ⟨⟨1, pn, pt⟩, a1, c1, rl⟩ :: ys.drop k) = (cellsI (ys.take k) ++ ([.int .i64 1, .int .i64 pn, .string pt, .slice a1 rl.length c1])) ++ cellsI [] := by rw [cellsI_append, cellsI_cons]; rw [List.drop_of_length_le (show ys.length ≤ k by omega)]; simp [cellsI]
                      have S93 := Lib.hid (Bag.bag_of_one S92.out 6 (r := rowI a5' c5' (ys.take k ++ ⟨⟨1, pn, pt⟩, a1, c1, rl⟩ :: ys.drop k)) (by unfold RowS.res rowI; dsimp only; rw [hlz, hcz]; rfl))
                      have S94 := Lib.hid (Bag.bag_join S93.out 6 5 (by decide) rfl rfl)
                      refine ⟨⟨nm3, a5', c5', ys.take k ++ ⟨⟨1, pn, pt⟩, a1, c1, rl⟩ :: ys.drop k, au3⟩, ?_, ?_, ?_, S94.out.old⟩
                      · rw [HE.out]; unfold LS.v LS.cells; dsimp only; rw [hlz]
                      · rw [HE.out, HX9.out, HPOS.out]; unfold LS.con; dsimp only; rw [conI_ins, HCE.out]; rfl
                      · have h := Bag.bag_from S94.out 6 rfl
                        unfold LS.rows; exact h
                    | true =>
                      go_wp2_with fail
                      go_at_call 71
                      refine (HIA.out _).mono ?_
                      rintro e w14 ⟨rfl, rfl⟩
                      clear f0 f1 f2 f3 f4 f5 f6 f7 f8 f9 f10 f11 f12
                      have hh := Bag.cs3 S21.out 0 rfl
                      have f0 := hh.1; have f1 := hh.2.1; have f2 := hh.2.2; clear hh
                      have hh := Bag.cs3 S21.out 1 rfl
                      have f3 := hh.1; have f4 := hh.2.1; have f5 := hh.2.2; clear hh
                      have f6 := Bag.cs1 S21.out 2 rfl
                      have hh := Bag.cs3 S21.out 3 rfl
                      have f7 := hh.1; have f8 := hh.2.1; have f9 := hh.2.2; clear hh
                      have hh := Bag.cs3 S21.out 4 rfl
                      have f10 := hh.1; have f11 := hh.2.1; have f12 := hh.2.2; clear hh
                      have hh := Bag.fs3 S21.out 4 rfl
                      have z0 := hh.1; have z1 := hh.2.1; have z2 := hh.2.2; clear hh
                      go_upto_region 18 with fail
                      clear f0 f1 f2 f3 f4 f5 f6 f7 f8 f9 f10 f11 f12 z0 z1 z2
                      have S22 := Lib.hid (show Sl.Sep w _ [L4.boxR w.heap.size 26 #[.string nm3, .slice a k c, .int .i64 au3], L4.boxR (w.heap.size + 1) 28 #[.int .i64 1, .int .i64 pn, .string pt], L4.boxR (w.heap.size + 1 + 1) 41 #[.slice ra M rc], L4.boxR (w.heap.size + 1 + 1 + 1) 26 #[.string ⟨#[]⟩, .slice none 0 0, .int .i64 0], L4.boxR g1 26 #[.string nm3, .slice a5' (k + 1) c5', .int .i64 pn], Bag.bag (rowsI ys), Sv.ownV 43 4 a5' c5' (k + 1) ((cellsI (ys.take k) ++ ([.int .i64 1, .int .i64 pn, .string pt, .slice a1 M c1])) ++ cellsI []), Sv.ownV 107 2 a1 c1 M (cellsF rl)] from L5.put_box5 (S21.out) 4 rfl 2 (.int .i64 pn))
                      clear S21
                      have hh := Bag.cs3 S22.out 0 rfl
                      have f0 := hh.1; have f1 := hh.2.1; have f2 := hh.2.2; clear hh
                      have hh := Bag.cs3 S22.out 1 rfl
                      have f3 := hh.1; have f4 := hh.2.1; have f5 := hh.2.2; clear hh
                      have f6 := Bag.cs1 S22.out 2 rfl
                      have hh := Bag.cs3 S22.out 3 rfl
                      have f7 := hh.1; have f8 := hh.2.1; have f9 := hh.2.2; clear hh
                      have hh := Bag.cs3 S22.out 4 rfl
                      have f10 := hh.1; have f11 := hh.2.1; have f12 := hh.2.2; clear hh
                      have hh := Bag.fs3 S22.out 3 rfl
                      have z0 := hh.1; have z1 := hh.2.1; have z2 := hh.2.2; clear hh
                      go_wp2_with fail
                      clear f0 f1 f2 f3 f4 f5 f6 f7 f8 f9 f10 f11 f12 z0 z1 z2
                      have S23 := Lib.hid (show Sl.Sep w _ [L4.boxR w.heap.size 26 #[.string nm3, .slice a k c, .int .i64 au3], L4.boxR (w.heap.size + 1) 28 #[.int .i64 1, .int .i64 pn, .string pt], L4.boxR (w.heap.size + 1 + 1) 41 #[.slice ra M rc], L4.boxR (w.heap.size + 1 + 1 + 1) 26 #[.string nm3, .slice a5' (k + 1) c5', .int .i64 pn], L4.boxR g1 26 #[.string nm3, .slice a5' (k + 1) c5', .int .i64 pn], Bag.bag (rowsI ys), Sv.ownV 43 4 a5' c5' (k + 1) ((cellsI (ys.take k) ++ ([.int .i64 1, .int .i64 pn, .string pt, .slice a1 M c1])) ++ cellsI []), Sv.ownV 107 2 a1 c1 M (cellsF rl)] from L5.put_box5 (L5.put_box5 (L5.put_box5 (S22.out) 3 rfl 0 (.string nm3)) 3 rfl 1 (.slice a5' (k + 1) c5')) 3 rfl 2 (.int .i64 pn))
                      clear S22
                      have hh := Bag.cs3 S23.out 3 rfl
                      have f0 := hh.1; have f1 := hh.2.1; have f2 := hh.2.2; clear hh
                      refine bodyPost_ret (v := .tuple #[.agg #[.string nm3, .slice a5' (k + 1) c5', .int .i64 pn], .bool true]) (by simp [results, Try.results134, go_sem, *]) rfl ?_
                      clear f0 f1 f2
                      have HX9 := Lib.hid (show nextAuto au3 ⟨1, pn, pt⟩ = pn from by unfold nextAuto; dsimp only; rw [HBA.out]; rfl)
                      have hM := HM.out
                      subst hM
                      have S90 := Lib.hid (Bag.bag_of_one S23.out 7 (r := (LI.mk ⟨1, pn, pt⟩ a1 c1 rl).row) rfl)
                      have S91 := Lib.hid (Bag.bag_join S90.out 5 7 (by decide) rfl rfl)
                      have S92 := Lib.hid (Bag.bag_perm S91.out 5 rfl (rowsI_ins ys k ⟨⟨1, pn, pt⟩, a1, c1, rl⟩))
                      have hlz : (ys.take k ++ ⟨⟨1, pn, pt⟩, a1, c1, rl⟩ :: ys.drop k).length = k + 1 := by rw [List.length_append, List.length_cons, List.length_take, List.length_drop]; omega
                      have hcz : cellsI (ys.take k ++ ⟨⟨1, pn, pt⟩, a1, c1, rl⟩ :: ys.drop k) = (cellsI (ys.take k) ++ ([.int .i64 1, .int .i64 pn, .string pt, .slice a1 rl.length c1])) ++ cellsI [] := by rw [cellsI_append, cellsI_cons]; rw [List.drop_of_length_le (show ys.length ≤ k by omega)]; simp [cellsI]
                      have S93 := Lib.hid (Bag.bag_of_one S92.out 6 (r := rowI a5' c5' (ys.take k ++ ⟨⟨1, pn, pt⟩, a1, c1, rl⟩ :: ys.drop k)) (by unfold RowS.res rowI; dsimp only; rw [hlz, hcz]; rfl))
                      have S94 := Lib.hid (Bag.bag_join S93.out 6 5 (by decide) rfl rfl)
                      refine ⟨⟨nm3, a5', c5', ys.take k ++ ⟨⟨1, pn, pt⟩, a1, c1, rl⟩ :: ys.drop k, pn⟩, ?_, ?_, ?_, S94.out.old⟩
                      · rw [HE.out]; unfold LS.v LS.cells; dsimp only; rw [hlz]
                      · rw [HE.out, HX9.out, HPOS.out]; unfold LS.con; dsimp only; rw [conI_ins, HCE.out]; rfl
                      · have h := Bag.bag_from S94.out 6 rfl
                        unfold LS.rows; exact h
                  · have hk2 : (pk == 1) = false := by simpa using hk1
                    clear f0 f1 f2 f3 f4 f5 f6 f7 f8 f9 f10 f11 f12
                    have hh := Bag.cs3 S21.out 0 rfl
                    have f0 := hh.1; have f1 := hh.2.1; have f2 := hh.2.2; clear hh
                    have hh := Bag.cs3 S21.out 1 rfl
                    have f3 := hh.1; have f4 := hh.2.1; have f5 := hh.2.2; clear hh
                    have f6 := Bag.cs1 S21.out 2 rfl
                    have hh := Bag.cs3 S21.out 3 rfl
                    have f7 := hh.1; have f8 := hh.2.1; have f9 := hh.2.2; clear hh
                    have hh := Bag.cs3 S21.out 4 rfl
                    have f10 := hh.1; have f11 := hh.2.1; have f12 := hh.2.2; clear hh
                    have hh := Bag.fs3 S21.out 3 rfl
                    have z0 := hh.1; have z1 := hh.2.1; have z2 := hh.2.2; clear hh
                    go_wp2_with fail
                    clear f0 f1 f2 f3 f4 f5 f6 f7 f8 f9 f10 f11 f12 z0 z1 z2
                    have S22 := Lib.hid (show Sl.Sep w _ [L4.boxR w.heap.size 26 #[.string nm3, .slice a k c, .int .i64 au3], L4.boxR (w.heap.size + 1) 28 #[.int .i64 pk, .int .i64 pn, .string pt], L4.boxR (w.heap.size + 1 + 1) 41 #[.slice ra M rc], L4.boxR (w.heap.size + 1 + 1 + 1) 26 #[.string nm3, .slice a5' (k + 1) c5', .int .i64 au3], L4.boxR g1 26 #[.string nm3, .slice a5' (k + 1) c5', .int .i64 au3], Bag.bag (rowsI ys), Sv.ownV 43 4 a5' c5' (k + 1) ((cellsI (ys.take k) ++ ([.int .i64 pk, .int .i64 pn, .string pt, .slice a1 M c1])) ++ cellsI []), Sv.ownV 107 2 a1 c1 M (cellsF rl)] from L5.put_box5 (L5.put_box5 (L5.put_box5 (S21.out) 3 rfl 0 (.string nm3)) 3 rfl 1 (.slice a5' (k + 1) c5')) 3 rfl 2 (.int .i64 au3))
                    clear S21
                    have hh := Bag.cs3 S22.out 3 rfl
                    have f0 := hh.1; have f1 := hh.2.1; have f2 := hh.2.2; clear hh
                    refine bodyPost_ret (v := .tuple #[.agg #[.string nm3, .slice a5' (k + 1) c5', .int .i64 au3], .bool true]) (by simp [results, Try.results134, go_sem, *]) rfl ?_
                    clear f0 f1 f2
                    have HX9 := Lib.hid (show nextAuto au3 ⟨pk, pn, pt⟩ = au3 from by unfold nextAuto; dsimp only; rw [hk2]; rfl)
                    have hM := HM.out
                    subst hM
                    have S90 := Lib.hid (Bag.bag_of_one S22.out 7 (r := (LI.mk ⟨pk, pn, pt⟩ a1 c1 rl).row) rfl)
                    have S91 := Lib.hid (Bag.bag_join S90.out 5 7 (by decide) rfl rfl)
                    have S92 := Lib.hid (Bag.bag_perm S91.out 5 rfl (rowsI_ins ys k ⟨⟨pk, pn, pt⟩, a1, c1, rl⟩))
                    have hlz : (ys.take k ++ ⟨⟨pk, pn, pt⟩, a1, c1, rl⟩ :: ys.drop k).length = k + 1 := by rw [List.length_append, List.length_cons, List.length_take, List.length_drop]; omega
                    have hcz : cellsI (ys.take k ++ ⟨⟨pk, pn, pt⟩, a1, c1, rl⟩ :: ys.drop k) = (cellsI (ys.take k) ++ ([.int .i64 pk, .int .i64 pn, .string pt, .slice a1 rl.length c1])) ++ cellsI [] := by rw [cellsI_append, cellsI_cons]; rw [List.drop_of_length_le (show ys.length ≤ k by omega)]; simp [cellsI]
                    have S93 := Lib.hid (Bag.bag_of_one S92.out 6 (r := rowI a5' c5' (ys.take k ++ ⟨⟨pk, pn, pt⟩, a1, c1, rl⟩ :: ys.drop k)) (by unfold RowS.res rowI; dsimp only; rw [hlz, hcz]; rfl))
                    have S94 := Lib.hid (Bag.bag_join S93.out 6 5 (by decide) rfl rfl)
                    refine ⟨⟨nm3, a5', c5', ys.take k ++ ⟨⟨pk, pn, pt⟩, a1, c1, rl⟩ :: ys.drop k, au3⟩, ?_, ?_, ?_, S94.out.old⟩
                    · rw [HE.out]; unfold LS.v LS.cells; dsimp only; rw [hlz]
                    · rw [HE.out, HX9.out, HPOS.out]; unfold LS.con; dsimp only; rw [conI_ins, HCE.out]; rfl
                    · have h := Bag.bag_from S94.out 6 rfl
                      unfold LS.rows; exact h
end Go.Proofs.Ytmnedjhfibmcnaa.L6

/-
  The contract of chapter 6's AddItem of the specification. Conditions: keys' texts of at most 2^40 bytes, at most 2^20 fields and items. (Written by my program gen_l6f.py.)
-/
namespace Go.Proofs.Ytmnedjhfibmcnaa.L6
set_option maxRecDepth 100000
open L4 (K isK cmpK R inR encU)
open L5 (F isR isN cellsF encR eqR Small)
open Go.ChangeShapes Go.WideShapes Go.ChangeAt Go.RowKit Mem Sl Ex L2 Sv Bag
set_option linter.unusedVariables false
set_option linter.unusedSimpArgs false

set_option maxHeartbeats 8000000 in
theorem specAddItem_any (y : LS) (k0 : K) (ra : Option Addr) (rc : Nat) (rl : List F) (hf : FitS y.con) (hkt : k0.text.size ≤ 1099511627776) (hrl : rl.length ≤ 1048576) (hrs : Small rl) (w : World) (hr : RowsRd w w.heap.size y.rows) (hrr : Reads w w.heap.size ra (cellsF rl)) :
    Calls Try.prog 140 #[y.v, k0.v, .agg #[.slice ra rl.length rc]] w (GaveSB w (addI y.con k0 rl).1 (addI y.con k0 rl).2) := by
  obtain ⟨pk, pn, pt⟩ := k0
  unfold L4.K.v
  try dsimp only at hkt ⊢
  have HCP := Lib.hid (fun w' (h : Below w.heap.size w w') => l6Copy_any y hf w' ((hr.below h).more h.size))
  have HFD := Lib.hid (fun w' (h : Below w.heap.size w w') => specFindItem_any y ⟨pk, pn, pt⟩ hf w' ((hr.below h).more h.size))
  have HPT := Lib.hid (fun w' (h : Below w.heap.size w w') => specPutItem_any y ⟨pk, pn, pt⟩ ra rc rl hf hkt hrl hrs w' ((hr.below h).more h.size) ((hrr.below h).more h.size))
  have HR0 := Lib.hid (fndI_range y.con.items ⟨pk, pn, pt⟩)
  obtain ⟨name, a, c, xs, auto⟩ := y
  have HR := Lib.hid (fun w' (h : Below w.heap.size w w') => LS.outer (hr.below h))
  have HX := Lib.hid (fun w' (h : Below w.heap.size w w') => (LS.inner (hr.below h)).more h.size)
  have HF := Lib.hid hf.items
  have HNM := Lib.hid hf.name
  have hl := hf.len
  simp only [LS.con, conI_length] at hl
  dsimp only [LS.con] at HR HX HF HNM
  try unfold LS.v LS.cells LS.con
  try dsimp only
  obtain ⟨N, hN⟩ : ∃ n, n = xs.length := ⟨_, rfl⟩
  rw [← hN] at hl ⊢
  have hl' : (N : Int) ≤ 1048576 := by omega
  have HN := Lib.hid hN
  clear hN hr hf
  dsimp only [LS.v, LS.cells, LS.con] at HCP HFD HPT HR0
  rw [← HN.out] at HCP HFD HPT
  obtain ⟨M, hM⟩ : ∃ M, M = rl.length := ⟨_, rfl⟩
  rw [← hM] at HPT ⊢
  clear hM hrr hrl
  obtain ⟨res, hres⟩ : ∃ r, addI ⟨name, conI xs, auto⟩ ⟨pk, pn, pt⟩ rl = r := ⟨_, rfl⟩
  rw [hres]
  obtain ⟨pu, hpu⟩ : ∃ r, putI ⟨name, conI xs, auto⟩ ⟨pk, pn, pt⟩ rl = r := ⟨_, rfl⟩
  rw [hpu] at HPT
  obtain ⟨fi, hfi⟩ : ∃ i, fndI (conI xs) ⟨pk, pn, pt⟩ = i := ⟨_, rfl⟩
  rw [hfi] at HFD HR0
  have HP := Lib.hid (show res = if 0 ≤ fi then (⟨name, conI xs, auto⟩, false) else pu from by rw [← hres, ← hpu, ← hfi]; rfl)
  clear hres hpu hfi
  have S1 := Lib.hid (show Sl.Sep w ((((w.alloc (.cells #[.string name, .slice a N c, .int .i64 auto] 26)).alloc (.cells #[.int .i64 pk, .int .i64 pn, .string pt] 28)).alloc (.cells #[.slice ra M rc] 41)).alloc (.cells #[.string ⟨#[]⟩, .slice none 0 0, .int .i64 0] 26)) [L4.boxR w.heap.size 26 #[.string name, .slice a N c, .int .i64 auto], L4.boxR (w.heap.size + 1) 28 #[.int .i64 pk, .int .i64 pn, .string pt], L4.boxR (w.heap.size + 1 + 1) 41 #[.slice ra M rc], L4.boxR (w.heap.size + 1 + 1 + 1) 26 #[.string ⟨#[]⟩, .slice none 0 0, .int .i64 0]] from L4.push_box (L4.push_box (L4.push_box (L4.push_box (Sl.Sep.start w) 26 #[.string name, .slice a N c, .int .i64 auto] (w.heap.size) (by simp)) 28 #[.int .i64 pk, .int .i64 pn, .string pt] (w.heap.size + 1) (by simp)) 41 #[.slice ra M rc] (w.heap.size + 1 + 1) (by simp)) 26 #[.string ⟨#[]⟩, .slice none 0 0, .int .i64 0] (w.heap.size + 1 + 1 + 1) (by simp))
  obtain ⟨wa, hwa⟩ : ∃ u, u = ((((w.alloc (.cells #[.string name, .slice a N c, .int .i64 auto] 26)).alloc (.cells #[.int .i64 pk, .int .i64 pn, .string pt] 28)).alloc (.cells #[.slice ra M rc] 41)).alloc (.cells #[.string ⟨#[]⟩, .slice none 0 0, .int .i64 0] 26)) := ⟨_, rfl⟩
  rw [← hwa] at S1
  go_enter Try.func140, Try.ntmps140
  go_upto_region 1 with fail
  rw [← hwa]
  clear hwa
  have hh := Bag.cs3 S1.out 0 rfl
  have f0 := hh.1; have f1 := hh.2.1; have f2 := hh.2.2; clear hh
  have hh := Bag.cs3 S1.out 1 rfl
  have f3 := hh.1; have f4 := hh.2.1; have f5 := hh.2.2; clear hh
  have f6 := Bag.cs1 S1.out 2 rfl
  have hh := Bag.cs3 S1.out 3 rfl
  have f7 := hh.1; have f8 := hh.2.1; have f9 := hh.2.2; clear hh
  go_wp2_with fail
  go_at_call 152
  refine (HFD.out _ S1.out.old).mono ?_
  rintro e w1 ⟨rfl, hb⟩
  clear f0 f1 f2 f3 f4 f5 f6 f7 f8 f9
  have S2 := Lib.hid (S1.out.keep hb)
  clear S1
  clear hb
  have hh := Bag.cs3 S2.out 0 rfl
  have f0 := hh.1; have f1 := hh.2.1; have f2 := hh.2.2; clear hh
  have hh := Bag.cs3 S2.out 1 rfl
  have f3 := hh.1; have f4 := hh.2.1; have f5 := hh.2.2; clear hh
  have f6 := Bag.cs1 S2.out 2 rfl
  have hh := Bag.cs3 S2.out 3 rfl
  have f7 := hh.1; have f8 := hh.2.1; have f9 := hh.2.2; clear hh
  by_cases h0 : 0 ≤ fi
  · have HE := Lib.hid (show res = (⟨name, conI xs, auto⟩, false) from by rw [HP.out, if_pos h0])
    go_wp2_with fail
    go_at_call 139
    refine (HCP.out _ S2.out.old).mono ?_
    rintro e w2 ⟨⟨nm3, a3, c3, ys, au3⟩, rfl, hcon, ho, hb⟩
    clear f0 f1 f2 f3 f4 f5 f6 f7 f8 f9
    have S3 := Lib.hid (show Sl.Sep w _ [L4.boxR w.heap.size 26 #[.string name, .slice a N c, .int .i64 auto], L4.boxR (w.heap.size + 1) 28 #[.int .i64 pk, .int .i64 pn, .string pt], L4.boxR (w.heap.size + 1 + 1) 41 #[.slice ra M rc], L4.boxR (w.heap.size + 1 + 1 + 1) 26 #[.string ⟨#[]⟩, .slice none 0 0, .int .i64 0], Bag.bag ((LS.mk nm3 a3 c3 ys au3).rows)] from Bag.push_bag S2.out hb ho)
    clear S2
    clear hb ho
    have HCON := Lib.hid hcon
    clear hcon
    simp only [LS.v, LS.cells]
    have hh := Bag.cs3 S3.out 3 rfl
    have f0 := hh.1; have f1 := hh.2.1; have f2 := hh.2.2; clear hh
    have hh := Bag.fs3 S3.out 3 rfl
    have z0 := hh.1; have z1 := hh.2.1; have z2 := hh.2.2; clear hh
    go_wp2_with fail
    clear f0 f1 f2 z0 z1 z2
    have S4 := Lib.hid (show Sl.Sep w _ [L4.boxR w.heap.size 26 #[.string name, .slice a N c, .int .i64 auto], L4.boxR (w.heap.size + 1) 28 #[.int .i64 pk, .int .i64 pn, .string pt], L4.boxR (w.heap.size + 1 + 1) 41 #[.slice ra M rc], L4.boxR (w.heap.size + 1 + 1 + 1) 26 #[.string nm3, .slice a3 ys.length c3, .int .i64 au3], Bag.bag ((LS.mk nm3 a3 c3 ys au3).rows)] from L5.put_box5 (L5.put_box5 (L5.put_box5 (S3.out) 3 rfl 0 (.string nm3)) 3 rfl 1 (.slice a3 ys.length c3)) 3 rfl 2 (.int .i64 au3))
    clear S3
    have hh := Bag.cs3 S4.out 3 rfl
    have f0 := hh.1; have f1 := hh.2.1; have f2 := hh.2.2; clear hh
    refine bodyPost_ret (v := .tuple #[.agg #[.string nm3, .slice a3 ys.length c3, .int .i64 au3], .bool false]) (by simp [results, Try.results140, go_sem, *]) rfl ?_
    exact ⟨⟨nm3, a3, c3, ys, au3⟩, by rw [HE.out]; rfl, by rw [HE.out]; exact HCON.out, Bag.bag_from S4.out 4 rfl, S4.out.old⟩
  · have HE := Lib.hid (show res = pu from by rw [HP.out, if_neg h0])
    have h1 : fi < 0 := by omega
    go_wp2_with fail
    go_at_call 134
    refine (HPT.out _ S2.out.old).mono ?_
    rintro e w2 ⟨⟨nm3, a3, c3, ys, au3⟩, rfl, hcon, ho, hb⟩
    clear f0 f1 f2 f3 f4 f5 f6 f7 f8 f9
    have S3 := Lib.hid (show Sl.Sep w _ [L4.boxR w.heap.size 26 #[.string name, .slice a N c, .int .i64 auto], L4.boxR (w.heap.size + 1) 28 #[.int .i64 pk, .int .i64 pn, .string pt], L4.boxR (w.heap.size + 1 + 1) 41 #[.slice ra M rc], L4.boxR (w.heap.size + 1 + 1 + 1) 26 #[.string ⟨#[]⟩, .slice none 0 0, .int .i64 0], Bag.bag ((LS.mk nm3 a3 c3 ys au3).rows)] from Bag.push_bag S2.out hb ho)
    clear S2
    clear hb ho
    have HCON := Lib.hid hcon
    clear hcon
    simp only [LS.v, LS.cells]
    obtain ⟨pb, hpb⟩ : ∃ b, pu.2 = b := ⟨_, rfl⟩
    rw [hpb]
    have HPB := Lib.hid hpb
    clear hpb
    have hh := Bag.cs3 S3.out 3 rfl
    have f0 := hh.1; have f1 := hh.2.1; have f2 := hh.2.2; clear hh
    have hh := Bag.fs3 S3.out 3 rfl
    have z0 := hh.1; have z1 := hh.2.1; have z2 := hh.2.2; clear hh
    go_wp2_with fail
    clear f0 f1 f2 z0 z1 z2
    have S4 := Lib.hid (show Sl.Sep w _ [L4.boxR w.heap.size 26 #[.string name, .slice a N c, .int .i64 auto], L4.boxR (w.heap.size + 1) 28 #[.int .i64 pk, .int .i64 pn, .string pt], L4.boxR (w.heap.size + 1 + 1) 41 #[.slice ra M rc], L4.boxR (w.heap.size + 1 + 1 + 1) 26 #[.string nm3, .slice a3 ys.length c3, .int .i64 au3], Bag.bag ((LS.mk nm3 a3 c3 ys au3).rows)] from L5.put_box5 (L5.put_box5 (L5.put_box5 (S3.out) 3 rfl 0 (.string nm3)) 3 rfl 1 (.slice a3 ys.length c3)) 3 rfl 2 (.int .i64 au3))
    clear S3
    have hh := Bag.cs3 S4.out 3 rfl
    have f0 := hh.1; have f1 := hh.2.1; have f2 := hh.2.2; clear hh
    refine bodyPost_ret (v := .tuple #[.agg #[.string nm3, .slice a3 ys.length c3, .int .i64 au3], .bool pb]) (by simp [results, Try.results140, go_sem, *]) rfl ?_
    exact ⟨⟨nm3, a3, c3, ys, au3⟩, by rw [HE.out, HPB.out]; rfl, by rw [HE.out]; exact HCON.out, Bag.bag_from S4.out 4 rfl, S4.out.old⟩
end Go.Proofs.Ytmnedjhfibmcnaa.L6

/-
  The contract of chapter 6's AutoItem of the specification. Conditions: keys' texts of at most 2^40 bytes, at most 2^20 fields and items, an automatic key of 64 bits. (Written by my program gen_l6l.py.)
-/
namespace Go.Proofs.Ytmnedjhfibmcnaa.L6
set_option maxRecDepth 100000
open L4 (K isK cmpK R inR encU)
open L5 (F isR isN cellsF encR eqR Small)
open Go.ChangeShapes Go.WideShapes Go.ChangeAt Go.RowKit Mem Sl Ex L2 Sv Bag
set_option linter.unusedVariables false
set_option linter.unusedSimpArgs false

theorem putI_false {s : S6} {k : K} {l : List F} (h : (putI s k l).2 = false) : (putI s k l).1 = s := by
  unfold putI at h ⊢
  split at h
  · split at h
    · cases h
    · split at h
      · rename_i h1 _ h2 h3
        rw [if_pos h1, if_pos h3]
      · cases h
  · rename_i h1
    rw [if_neg h1]
theorem addI_false {s : S6} {k : K} {l : List F} (h : (addI s k l).2 = false) : (addI s k l).1 = s := by
  unfold addI at h ⊢
  split at h
  · rename_i h1
    rw [if_pos h1]
  · rename_i h1
    rw [if_neg h1]
    exact putI_false h
theorem auto_parts (s : S6) (l : List F) : (1000000 ≤ s.auto → autoS s l = s ∧ autoR s l = zK ∧ autoB s l = false) ∧
    (¬ 1000000 ≤ s.auto → (addI s (autoK s) l).2 = false → autoS s l = s ∧ autoR s l = zK ∧ autoB s l = false) ∧
    (¬ 1000000 ≤ s.auto → (addI s (autoK s) l).2 = true → autoS s l = (addI s (autoK s) l).1 ∧ autoR s l = autoK s ∧ autoB s l = true) := by
  refine ⟨fun h => ?_, fun h h2 => ?_, fun h h2 => ?_⟩ <;> unfold autoS autoR autoB <;> simp [h, *]

set_option maxHeartbeats 8000000 in
theorem specAutoItem_any (y : LS) (ra : Option Addr) (rc : Nat) (rl : List F) (hf : FitS y.con) (hau : -9223372036854775808 ≤ y.auto) (hrl : rl.length ≤ 1048576) (hrs : Small rl) (w : World) (hr : RowsRd w w.heap.size y.rows) (hrr : Reads w w.heap.size ra (cellsF rl)) :
    Calls Try.prog 113 #[y.v, .agg #[.slice ra rl.length rc]] w (GaveSKB w (autoS y.con rl) (autoR y.con rl) (autoB y.con rl)) := by
  have HCP := Lib.hid (fun w' (h : Below w.heap.size w w') => l6Copy_any y hf w' ((hr.below h).more h.size))
  have HAD := Lib.hid (fun w' (h : Below w.heap.size w w') => specAddItem_any y ⟨1, y.auto + 1, ⟨#[]⟩⟩ ra rc rl hf (by show (0 : Nat) ≤ _; omega) hrl hrs w' ((hr.below h).more h.size) ((hrr.below h).more h.size))
  obtain ⟨name, a, c, xs, auto⟩ := y
  have HR := Lib.hid (fun w' (h : Below w.heap.size w w') => LS.outer (hr.below h))
  have HX := Lib.hid (fun w' (h : Below w.heap.size w w') => (LS.inner (hr.below h)).more h.size)
  have HF := Lib.hid hf.items
  have HNM := Lib.hid hf.name
  have hl := hf.len
  simp only [LS.con, conI_length] at hl
  dsimp only [LS.con] at HR HX HF HNM
  try unfold LS.v LS.cells LS.con
  try dsimp only
  obtain ⟨N, hN⟩ : ∃ n, n = xs.length := ⟨_, rfl⟩
  rw [← hN] at hl ⊢
  have hl' : (N : Int) ≤ 1048576 := by omega
  have HN := Lib.hid hN
  clear hN hr hf
  dsimp only [LS.v, LS.cells, LS.con, L4.K.v] at HCP HAD hau ⊢
  rw [← HN.out] at HCP HAD
  obtain ⟨M, hM⟩ : ∃ M, M = rl.length := ⟨_, rfl⟩
  rw [← hM] at HAD ⊢
  clear hM hrr hrl
  have HP := Lib.hid (auto_parts ⟨name, conI xs, auto⟩ rl)
  dsimp only [autoK] at HP
  obtain ⟨ad, had⟩ : ∃ r, addI ⟨name, conI xs, auto⟩ ⟨1, auto + 1, ⟨#[]⟩⟩ rl = r := ⟨_, rfl⟩
  rw [had] at HAD HP
  have HF2 := Lib.hid (show ad.2 = false → ad.1 = ⟨name, conI xs, auto⟩ from by rw [← had]; exact addI_false)
  clear had
  obtain ⟨rs, has⟩ : ∃ r, autoS ⟨name, conI xs, auto⟩ rl = r := ⟨_, rfl⟩
  obtain ⟨rk, hak⟩ : ∃ r, autoR ⟨name, conI xs, auto⟩ rl = r := ⟨_, rfl⟩
  obtain ⟨rb, hab⟩ : ∃ r, autoB ⟨name, conI xs, auto⟩ rl = r := ⟨_, rfl⟩
  rw [has, hak, hab] at HP ⊢
  clear has hak hab
  have S1 := Lib.hid (show Sl.Sep w ((((w.alloc (.cells #[.string name, .slice a N c, .int .i64 auto] 26)).alloc (.cells #[.slice ra M rc] 41)).alloc (.cells #[.string ⟨#[]⟩, .slice none 0 0, .int .i64 0] 26)).alloc (.cells #[.int .i64 0, .int .i64 0, .string ⟨#[]⟩] 28)) [L4.boxR w.heap.size 26 #[.string name, .slice a N c, .int .i64 auto], L4.boxR (w.heap.size + 1) 41 #[.slice ra M rc], L4.boxR (w.heap.size + 1 + 1) 26 #[.string ⟨#[]⟩, .slice none 0 0, .int .i64 0], L4.boxR (w.heap.size + 1 + 1 + 1) 28 #[.int .i64 0, .int .i64 0, .string ⟨#[]⟩]] from L4.push_box (L4.push_box (L4.push_box (L4.push_box (Sl.Sep.start w) 26 #[.string name, .slice a N c, .int .i64 auto] (w.heap.size) (by simp)) 41 #[.slice ra M rc] (w.heap.size + 1) (by simp)) 26 #[.string ⟨#[]⟩, .slice none 0 0, .int .i64 0] (w.heap.size + 1 + 1) (by simp)) 28 #[.int .i64 0, .int .i64 0, .string ⟨#[]⟩] (w.heap.size + 1 + 1 + 1) (by simp))
  obtain ⟨wa, hwa⟩ : ∃ u, u = ((((w.alloc (.cells #[.string name, .slice a N c, .int .i64 auto] 26)).alloc (.cells #[.slice ra M rc] 41)).alloc (.cells #[.string ⟨#[]⟩, .slice none 0 0, .int .i64 0] 26)).alloc (.cells #[.int .i64 0, .int .i64 0, .string ⟨#[]⟩] 28)) := ⟨_, rfl⟩
  rw [← hwa] at S1
  go_enter Try.func113, Try.ntmps113
  go_upto_region 1 with fail
  rw [← hwa]
  clear hwa
  have hh := Bag.cs3 S1.out 0 rfl
  have f0 := hh.1; have f1 := hh.2.1; have f2 := hh.2.2; clear hh
  have f3 := Bag.cs1 S1.out 1 rfl
  have hh := Bag.cs3 S1.out 2 rfl
  have f4 := hh.1; have f5 := hh.2.1; have f6 := hh.2.2; clear hh
  have hh := Bag.cs3 S1.out 3 rfl
  have f7 := hh.1; have f8 := hh.2.1; have f9 := hh.2.2; clear hh
  by_cases h0 : 1000000 ≤ auto
  · have HE := Lib.hid (HP.out.1 h0)
    go_wp2_with fail
    go_at_call 139
    refine (HCP.out _ S1.out.old).mono ?_
    rintro e w1 ⟨⟨nm3, a3, c3, ys, au3⟩, rfl, hcon, ho, hb⟩
    clear f0 f1 f2 f3 f4 f5 f6 f7 f8 f9
    have S2 := Lib.hid (show Sl.Sep w _ [L4.boxR w.heap.size 26 #[.string name, .slice a N c, .int .i64 auto], L4.boxR (w.heap.size + 1) 41 #[.slice ra M rc], L4.boxR (w.heap.size + 1 + 1) 26 #[.string ⟨#[]⟩, .slice none 0 0, .int .i64 0], L4.boxR (w.heap.size + 1 + 1 + 1) 28 #[.int .i64 0, .int .i64 0, .string ⟨#[]⟩], Bag.bag ((LS.mk nm3 a3 c3 ys au3).rows)] from Bag.push_bag S1.out hb ho)
    clear S1
    clear hb ho
    have HCON := Lib.hid hcon
    clear hcon
    simp only [LS.v, LS.cells]
    have hh := Bag.cs3 S2.out 2 rfl
    have f0 := hh.1; have f1 := hh.2.1; have f2 := hh.2.2; clear hh
    have hh := Bag.cs3 S2.out 3 rfl
    have f3 := hh.1; have f4 := hh.2.1; have f5 := hh.2.2; clear hh
    have hh := Bag.fs3 S2.out 2 rfl
    have z0 := hh.1; have z1 := hh.2.1; have z2 := hh.2.2; clear hh
    have y0 := Bag.free_at S2.out 3 rfl 0
    have y1 := Bag.free_at S2.out 3 rfl 1
    have y2 := Bag.free_at S2.out 3 rfl 2
    go_wp2_with fail
    clear f0 f1 f2 f3 f4 f5 z0 z1 z2 y0 y1 y2
    have S3 := Lib.hid (show Sl.Sep w _ [L4.boxR w.heap.size 26 #[.string name, .slice a N c, .int .i64 auto], L4.boxR (w.heap.size + 1) 41 #[.slice ra M rc], L4.boxR (w.heap.size + 1 + 1) 26 #[.string nm3, .slice a3 ys.length c3, .int .i64 au3], L4.boxR (w.heap.size + 1 + 1 + 1) 28 #[.int .i64 0, .int .i64 0, .string ⟨#[]⟩], Bag.bag ((LS.mk nm3 a3 c3 ys au3).rows)] from L5.put_box5 (L5.put_box5 (L5.put_box5 (S2.out) 2 rfl 0 (.string nm3)) 2 rfl 1 (.slice a3 ys.length c3)) 2 rfl 2 (.int .i64 au3))
    clear S2
    have S4 := Lib.hid (show Sl.Sep w _ [L4.boxR w.heap.size 26 #[.string name, .slice a N c, .int .i64 auto], L4.boxR (w.heap.size + 1) 41 #[.slice ra M rc], L4.boxR (w.heap.size + 1 + 1) 26 #[.string nm3, .slice a3 ys.length c3, .int .i64 au3], L4.boxR (w.heap.size + 1 + 1 + 1) 28 #[.int .i64 0, .int .i64 0, .string ⟨#[]⟩], Bag.bag ((LS.mk nm3 a3 c3 ys au3).rows)] from L5.put_box5 (L5.put_box5 (L5.put_box5 (S3.out) 3 rfl 0 (.int .i64 0)) 3 rfl 1 (.int .i64 0)) 3 rfl 2 (.string ⟨#[]⟩))
    clear S3
    have hh := Bag.cs3 S4.out 2 rfl
    have f0 := hh.1; have f1 := hh.2.1; have f2 := hh.2.2; clear hh
    have hh := Bag.cs3 S4.out 3 rfl
    have f3 := hh.1; have f4 := hh.2.1; have f5 := hh.2.2; clear hh
    refine bodyPost_ret (v := .tuple #[.agg #[.string nm3, .slice a3 ys.length c3, .int .i64 au3], .agg #[.int .i64 0, .int .i64 0, .string ⟨#[]⟩], .bool false]) (by simp [results, Try.results113, go_sem, *]) rfl ?_
    exact ⟨⟨nm3, a3, c3, ys, au3⟩, by rw [HE.out.2.1, HE.out.2.2]; rfl, by rw [HE.out.1]; exact HCON.out, Bag.bag_from S4.out 4 rfl, S4.out.old⟩
  · have hlt : auto < 1000000 := by omega
    have hw1 : IntKind.i64.wrap (auto + 1) = auto + 1 := IntWalk.i64_in _ ⟨by omega, by omega⟩
    go_upto_region 4 with fail
    clear f0 f1 f2 f3 f4 f5 f6 f7 f8 f9
    have S2 := Lib.hid (show Sl.Sep w _ [L4.boxR w.heap.size 26 #[.string name, .slice a N c, .int .i64 auto], L4.boxR (w.heap.size + 1) 41 #[.slice ra M rc], L4.boxR (w.heap.size + 1 + 1) 26 #[.string ⟨#[]⟩, .slice none 0 0, .int .i64 0], L4.boxR (w.heap.size + 1 + 1 + 1) 28 #[.int .i64 0, .int .i64 0, .string ⟨#[]⟩], L4.boxR wa.heap.size 28 #[.int .i64 1, .int .i64 (auto + 1), .string ⟨#[]⟩]] from L4.push_box S1.out 28 #[.int .i64 1, .int .i64 (auto + 1), .string ⟨#[]⟩] wa.heap.size rfl)
    clear S1
    obtain ⟨g1, hg⟩ : ∃ g', g' = wa.heap.size := ⟨_, rfl⟩
    rw [← hg] at S2 ⊢
    clear hg
    generalize wa.alloc (.cells #[.int .i64 1, .int .i64 (auto + 1), .string ⟨#[]⟩] 28) = w1 at S2 ⊢
    have hh := Bag.cs3 S2.out 0 rfl
    have f0 := hh.1; have f1 := hh.2.1; have f2 := hh.2.2; clear hh
    have f3 := Bag.cs1 S2.out 1 rfl
    have hh := Bag.cs3 S2.out 2 rfl
    have f4 := hh.1; have f5 := hh.2.1; have f6 := hh.2.2; clear hh
    have hh := Bag.cs3 S2.out 3 rfl
    have f7 := hh.1; have f8 := hh.2.1; have f9 := hh.2.2; clear hh
    have hh := Bag.cs3 S2.out 4 rfl
    have f10 := hh.1; have f11 := hh.2.1; have f12 := hh.2.2; clear hh
    go_wp2_with fail
    go_at_call 140
    refine (HAD.out _ S2.out.old).mono ?_
    rintro e w2 ⟨⟨nm3, a3, c3, ys, au3⟩, rfl, hcon, ho, hb⟩
    clear f0 f1 f2 f3 f4 f5 f6 f7 f8 f9 f10 f11 f12
    have S3 := Lib.hid (show Sl.Sep w _ [L4.boxR w.heap.size 26 #[.string name, .slice a N c, .int .i64 auto], L4.boxR (w.heap.size + 1) 41 #[.slice ra M rc], L4.boxR (w.heap.size + 1 + 1) 26 #[.string ⟨#[]⟩, .slice none 0 0, .int .i64 0], L4.boxR (w.heap.size + 1 + 1 + 1) 28 #[.int .i64 0, .int .i64 0, .string ⟨#[]⟩], L4.boxR g1 28 #[.int .i64 1, .int .i64 (auto + 1), .string ⟨#[]⟩], Bag.bag ((LS.mk nm3 a3 c3 ys au3).rows)] from Bag.push_bag S2.out hb ho)
    clear S2
    clear hb ho
    have HC3 := Lib.hid hcon
    clear hcon
    simp only [LS.v, LS.cells]
    obtain ⟨pb, hpb⟩ : ∃ b, ad.2 = b := ⟨_, rfl⟩
    rw [hpb]
    have HPB := Lib.hid hpb
    clear hpb
    go_upto_region 5 with fail
    have S4 := Lib.hid (show Sl.Sep w _ [L4.boxR w.heap.size 26 #[.string name, .slice a N c, .int .i64 auto], L4.boxR (w.heap.size + 1) 41 #[.slice ra M rc], L4.boxR (w.heap.size + 1 + 1) 26 #[.string ⟨#[]⟩, .slice none 0 0, .int .i64 0], L4.boxR (w.heap.size + 1 + 1 + 1) 28 #[.int .i64 0, .int .i64 0, .string ⟨#[]⟩], L4.boxR g1 28 #[.int .i64 1, .int .i64 (auto + 1), .string ⟨#[]⟩], Bag.bag ((LS.mk nm3 a3 c3 ys au3).rows), L4.boxR w2.heap.size 26 #[.string nm3, .slice a3 ys.length c3, .int .i64 au3]] from L4.push_box S3.out 26 #[.string nm3, .slice a3 ys.length c3, .int .i64 au3] w2.heap.size rfl)
    clear S3
    obtain ⟨g2, hg⟩ : ∃ g', g' = w2.heap.size := ⟨_, rfl⟩
    rw [← hg] at S4 ⊢
    clear hg
    generalize w2.alloc (.cells #[.string nm3, .slice a3 ys.length c3, .int .i64 au3] 26) = w3 at S4 ⊢
    have hh := Bag.cs3 S4.out 0 rfl
    have f0 := hh.1; have f1 := hh.2.1; have f2 := hh.2.2; clear hh
    have f3 := Bag.cs1 S4.out 1 rfl
    have hh := Bag.cs3 S4.out 2 rfl
    have f4 := hh.1; have f5 := hh.2.1; have f6 := hh.2.2; clear hh
    have hh := Bag.cs3 S4.out 3 rfl
    have f7 := hh.1; have f8 := hh.2.1; have f9 := hh.2.2; clear hh
    have hh := Bag.cs3 S4.out 4 rfl
    have f10 := hh.1; have f11 := hh.2.1; have f12 := hh.2.2; clear hh
    have hh := Bag.cs3 S4.out 6 rfl
    have f13 := hh.1; have f14 := hh.2.1; have f15 := hh.2.2; clear hh
    cases pb with
    | false =>
      have HE := Lib.hid (HP.out.2.1 h0 HPB.out)
      clear HC3
      go_wp2_with fail
      go_at_call 139
      refine (HCP.out _ S4.out.old).mono ?_
      rintro e w4 ⟨⟨nm4, a4, c4, ys4, au4⟩, rfl, hcon, ho, hb⟩
      clear f0 f1 f2 f3 f4 f5 f6 f7 f8 f9 f10 f11 f12 f13 f14 f15
      have S5 := Lib.hid (show Sl.Sep w _ [L4.boxR w.heap.size 26 #[.string name, .slice a N c, .int .i64 auto], L4.boxR (w.heap.size + 1) 41 #[.slice ra M rc], L4.boxR (w.heap.size + 1 + 1) 26 #[.string ⟨#[]⟩, .slice none 0 0, .int .i64 0], L4.boxR (w.heap.size + 1 + 1 + 1) 28 #[.int .i64 0, .int .i64 0, .string ⟨#[]⟩], L4.boxR g1 28 #[.int .i64 1, .int .i64 (auto + 1), .string ⟨#[]⟩], Bag.bag ((LS.mk nm3 a3 c3 ys au3).rows), L4.boxR g2 26 #[.string nm3, .slice a3 ys.length c3, .int .i64 au3], Bag.bag ((LS.mk nm4 a4 c4 ys4 au4).rows)] from Bag.push_bag S4.out hb ho)
      clear S4
      clear hb ho
      have HCON := Lib.hid hcon
      clear hcon
      simp only [LS.v, LS.cells]
      have hh := Bag.cs3 S5.out 2 rfl
      have f0 := hh.1; have f1 := hh.2.1; have f2 := hh.2.2; clear hh
      have hh := Bag.cs3 S5.out 3 rfl
      have f3 := hh.1; have f4 := hh.2.1; have f5 := hh.2.2; clear hh
      have hh := Bag.fs3 S5.out 2 rfl
      have z0 := hh.1; have z1 := hh.2.1; have z2 := hh.2.2; clear hh
      have y0 := Bag.free_at S5.out 3 rfl 0
      have y1 := Bag.free_at S5.out 3 rfl 1
      have y2 := Bag.free_at S5.out 3 rfl 2
      go_wp2_with fail
      clear f0 f1 f2 f3 f4 f5 z0 z1 z2 y0 y1 y2
      have S6 := Lib.hid (show Sl.Sep w _ [L4.boxR w.heap.size 26 #[.string name, .slice a N c, .int .i64 auto], L4.boxR (w.heap.size + 1) 41 #[.slice ra M rc], L4.boxR (w.heap.size + 1 + 1) 26 #[.string nm4, .slice a4 ys4.length c4, .int .i64 au4], L4.boxR (w.heap.size + 1 + 1 + 1) 28 #[.int .i64 0, .int .i64 0, .string ⟨#[]⟩], L4.boxR g1 28 #[.int .i64 1, .int .i64 (auto + 1), .string ⟨#[]⟩], Bag.bag ((LS.mk nm3 a3 c3 ys au3).rows), L4.boxR g2 26 #[.string nm3, .slice a3 ys.length c3, .int .i64 au3], Bag.bag ((LS.mk nm4 a4 c4 ys4 au4).rows)] from L5.put_box5 (L5.put_box5 (L5.put_box5 (S5.out) 2 rfl 0 (.string nm4)) 2 rfl 1 (.slice a4 ys4.length c4)) 2 rfl 2 (.int .i64 au4))
      clear S5
      have S7 := Lib.hid (show Sl.Sep w _ [L4.boxR w.heap.size 26 #[.string name, .slice a N c, .int .i64 auto], L4.boxR (w.heap.size + 1) 41 #[.slice ra M rc], L4.boxR (w.heap.size + 1 + 1) 26 #[.string nm4, .slice a4 ys4.length c4, .int .i64 au4], L4.boxR (w.heap.size + 1 + 1 + 1) 28 #[.int .i64 0, .int .i64 0, .string ⟨#[]⟩], L4.boxR g1 28 #[.int .i64 1, .int .i64 (auto + 1), .string ⟨#[]⟩], Bag.bag ((LS.mk nm3 a3 c3 ys au3).rows), L4.boxR g2 26 #[.string nm3, .slice a3 ys.length c3, .int .i64 au3], Bag.bag ((LS.mk nm4 a4 c4 ys4 au4).rows)] from L5.put_box5 (L5.put_box5 (L5.put_box5 (S6.out) 3 rfl 0 (.int .i64 0)) 3 rfl 1 (.int .i64 0)) 3 rfl 2 (.string ⟨#[]⟩))
      clear S6
      have hh := Bag.cs3 S7.out 2 rfl
      have f0 := hh.1; have f1 := hh.2.1; have f2 := hh.2.2; clear hh
      have hh := Bag.cs3 S7.out 3 rfl
      have f3 := hh.1; have f4 := hh.2.1; have f5 := hh.2.2; clear hh
      refine bodyPost_ret (v := .tuple #[.agg #[.string nm4, .slice a4 ys4.length c4, .int .i64 au4], .agg #[.int .i64 0, .int .i64 0, .string ⟨#[]⟩], .bool false]) (by simp [results, Try.results113, go_sem, *]) rfl ?_
      exact ⟨⟨nm4, a4, c4, ys4, au4⟩, by rw [HE.out.2.1, HE.out.2.2]; rfl, by rw [HE.out.1]; exact HCON.out, Bag.bag_from S7.out 7 rfl, S7.out.old⟩
    | true =>
      have HE := Lib.hid (HP.out.2.2 h0 HPB.out)
      have HCON := HC3
      go_upto_region 7 with fail
      clear f0 f1 f2 f3 f4 f5 f6 f7 f8 f9 f10 f11 f12 f13 f14 f15
      refine wp_region_held_drew (S := (fun w' => (World.cell? w' ⟨g1, 0, none⟩ = some (.int .i64 1) ∧ World.cell? w' ⟨g1, 1, none⟩ = some (.int .i64 (auto + 1)) ∧ World.cell? w' ⟨g1, 2, none⟩ = some (.string ⟨#[]⟩)) ∧ (World.cell? w' ⟨g2, 0, none⟩ = some (.string nm3) ∧ World.cell? w' ⟨g2, 1, none⟩ = some (.slice a3 ys.length c3) ∧ World.cell? w' ⟨g2, 2, none⟩ = some (.int .i64 au3)))) (by kernel_rfl) ⟨Bag.cs3 (Bag.drew1 S4.out) 4 rfl, Bag.cs3 (Bag.drew1 S4.out) 6 rfl⟩ (fun hS => ?_)
      have S5 := Lib.hid (show Sl.Sep w _ [L4.boxR w.heap.size 26 #[.string name, .slice a N c, .int .i64 auto], L4.boxR (w.heap.size + 1) 41 #[.slice ra M rc], L4.boxR (w.heap.size + 1 + 1) 26 #[.string ⟨#[]⟩, .slice none 0 0, .int .i64 0], L4.boxR (w.heap.size + 1 + 1 + 1) 28 #[.int .i64 0, .int .i64 0, .string ⟨#[]⟩], L4.boxR g1 28 #[.int .i64 1, .int .i64 (auto + 1), .string ⟨#[]⟩], Bag.bag ((LS.mk nm3 a3 c3 ys au3).rows), L4.boxR g2 26 #[.string nm3, .slice a3 ys.length c3, .int .i64 au3]] from Bag.drew1 S4.out)
      clear S4
      generalize World.drew _ = w4 at hS S5 ⊢
      refine tk 0 rfl ?_
      try simp only [zp0, zp1, zp2, zp3, zp4]
      refine tk 1 rfl ?_
      try simp only [zp0, zp1, zp2, zp3, zp4]
      refine Reg.one_op (i := 2) rfl (by kernel_rfl) (fun K hK => ?_)
      have hh := Bag.cs3 S5.out 2 rfl
      have f0 := hh.1; have f1 := hh.2.1; have f2 := hh.2.2; clear hh
      have hh := Bag.fs3 S5.out 2 rfl
      have z0 := hh.1; have z1 := hh.2.1; have z2 := hh.2.2; clear hh
      go_simp
      clear f0 f1 f2 z0 z1 z2
      have S6 := Lib.hid (show Sl.Sep w _ [L4.boxR w.heap.size 26 #[.string name, .slice a N c, .int .i64 auto], L4.boxR (w.heap.size + 1) 41 #[.slice ra M rc], L4.boxR (w.heap.size + 1 + 1) 26 #[.string nm3, .slice a3 ys.length c3, .int .i64 au3], L4.boxR (w.heap.size + 1 + 1 + 1) 28 #[.int .i64 0, .int .i64 0, .string ⟨#[]⟩], L4.boxR g1 28 #[.int .i64 1, .int .i64 (auto + 1), .string ⟨#[]⟩], Bag.bag ((LS.mk nm3 a3 c3 ys au3).rows), L4.boxR g2 26 #[.string nm3, .slice a3 ys.length c3, .int .i64 au3]] from L5.put_box5 (L5.put_box5 (L5.put_box5 (S5.out) 2 rfl 0 (.string nm3)) 2 rfl 1 (.slice a3 ys.length c3)) 2 rfl 2 (.int .i64 au3))
      clear S5
      refine hK.out _ _ ⟨Bag.cs3 S6.out 4 rfl, Bag.cs3 S6.out 6 rfl⟩ (fun hS => ?_)
      clear hK K
      try simp only [zp0, zp1, zp2, zp3, zp4]
      refine Reg.one_op (i := 3) rfl (by kernel_rfl) (fun K hK => ?_)
      have hh := Bag.cs3 S6.out 3 rfl
      have f0 := hh.1; have f1 := hh.2.1; have f2 := hh.2.2; clear hh
      have hh := Bag.fs3 S6.out 3 rfl
      have z0 := hh.1; have z1 := hh.2.1; have z2 := hh.2.2; clear hh
      go_simp
      clear f0 f1 f2 z0 z1 z2
      have S7 := Lib.hid (show Sl.Sep w _ [L4.boxR w.heap.size 26 #[.string name, .slice a N c, .int .i64 auto], L4.boxR (w.heap.size + 1) 41 #[.slice ra M rc], L4.boxR (w.heap.size + 1 + 1) 26 #[.string nm3, .slice a3 ys.length c3, .int .i64 au3], L4.boxR (w.heap.size + 1 + 1 + 1) 28 #[.int .i64 1, .int .i64 (auto + 1), .string ⟨#[]⟩], L4.boxR g1 28 #[.int .i64 1, .int .i64 (auto + 1), .string ⟨#[]⟩], Bag.bag ((LS.mk nm3 a3 c3 ys au3).rows), L4.boxR g2 26 #[.string nm3, .slice a3 ys.length c3, .int .i64 au3]] from L5.put_box5 (L5.put_box5 (L5.put_box5 (S6.out) 3 rfl 0 (.int .i64 1)) 3 rfl 1 (.int .i64 (auto + 1))) 3 rfl 2 (.string ⟨#[]⟩))
      clear S6
      refine hK.out _ _ ⟨Bag.cs3 S7.out 4 rfl, Bag.cs3 S7.out 6 rfl⟩ (fun hS => ?_)
      clear hK K
      try simp only [zp0, zp1, zp2, zp3, zp4]
      refine tk 4 rfl ?_
      try simp only [zp0, zp1, zp2, zp3, zp4]
      refine wpAnyH_done (by kernel_rfl) ?_ _
      have hh := Bag.cs3 S7.out 0 rfl
      have f0 := hh.1; have f1 := hh.2.1; have f2 := hh.2.2; clear hh
      have f3 := Bag.cs1 S7.out 1 rfl
      have hh := Bag.cs3 S7.out 2 rfl
      have f4 := hh.1; have f5 := hh.2.1; have f6 := hh.2.2; clear hh
      have hh := Bag.cs3 S7.out 3 rfl
      have f7 := hh.1; have f8 := hh.2.1; have f9 := hh.2.2; clear hh
      have hh := Bag.cs3 S7.out 4 rfl
      have f10 := hh.1; have f11 := hh.2.1; have f12 := hh.2.2; clear hh
      have hh := Bag.cs3 S7.out 6 rfl
      have f13 := hh.1; have f14 := hh.2.1; have f15 := hh.2.2; clear hh
      go_wp2_with fail
      refine bodyPost_ret (v := .tuple #[.agg #[.string nm3, .slice a3 ys.length c3, .int .i64 au3], .agg #[.int .i64 1, .int .i64 (auto + 1), .string ⟨#[]⟩], .bool true]) (by simp [results, Try.results113, go_sem, *]) rfl ?_
      exact ⟨⟨nm3, a3, c3, ys, au3⟩, by rw [HE.out.2.1, HE.out.2.2]; rfl, by rw [HE.out.1]; exact HCON.out, Bag.bag_from S7.out 5 rfl, S7.out.old⟩
end Go.Proofs.Ytmnedjhfibmcnaa.L6

/-
  Chapter 6: what an encoding holds at most; sizes and choices item by item. No condition.
-/
namespace Go.Proofs.Ytmnedjhfibmcnaa.L6
set_option maxRecDepth 100000
open L4 (K isK cmpK R inR encU)
open L5 (F isR isN cellsF encR eqR Small)
open Go.ChangeShapes Go.WideShapes Go.ChangeAt Go.RowKit Mem Sl Ex L2 Sv Bag
set_option linter.unusedVariables false
set_option linter.unusedSimpArgs false

theorem conI_snoc (ys : List LI) (x : LI) : conI (ys ++ [x]) = conI ys ++ [x.con] := List.map_append
end Go.Proofs.Ytmnedjhfibmcnaa.L6

/-
  Chapter 7's mathematics: items by a field, in order; what a cursor finds next. No condition.
-/
namespace Go.Proofs.Ytmnedjhfibmcnaa.L7
set_option maxRecDepth 100000
open L4 (K isK cmpK R inR encU)
open L5 (F isR isN cellsF encR eqR Small getO getN getB)
open L6 (It)
set_option linter.unusedVariables false
set_option linter.unusedSimpArgs false

def less7 (t : List UInt8) (a b : It) : Bool := decide (getN a.l t < getN b.l t) || (getN a.l t == getN b.l t && decide (cmpK a.k b.k < 0))
def backP (t : List UInt8) (x : It) (l : List It) : Nat → Nat
  | 0 => 0
  | n + 1 => match l[n]? with
    | none => n + 1
    | some y => if less7 t x y then backP t x l n else n + 1
theorem backP_le (t : List UInt8) (x : It) (l : List It) : ∀ n, backP t x l n ≤ n
  | 0 => Nat.le_refl _
  | n + 1 => by
    unfold backP
    split
    · exact Nat.le_refl _
    · split
      · exact Nat.le_succ_of_le (backP_le t x l n)
      · exact Nat.le_refl _
theorem backP_go {t : List UInt8} {x y : It} {l : List It} {n : Nat} (h : l[n]? = some y) (hl : less7 t x y = true) : backP t x l (n + 1) = backP t x l n := by
  rw [backP, h]
  dsimp only
  rw [if_pos hl]
theorem backP_stop {t : List UInt8} {x y : It} {l : List It} {n : Nat} (h : l[n]? = some y) (hl : less7 t x y = false) : backP t x l (n + 1) = n + 1 := by
  rw [backP, h]
  dsimp only
  rw [if_neg (by rw [hl]; exact Bool.false_ne_true)]
def insX (t : List UInt8) (l : List It) (x : It) : List It := l.take (backP t x l l.length) ++ x :: l.drop (backP t x l l.length)
def stepX (t : List UInt8) (l : List It) (x : It) : List It := if getB x.l t then insX t l x else l
def idxI (xs : List It) (t : List UInt8) : List It := xs.foldl (stepX t) []
theorem insX_len (t : List UInt8) (l : List It) (x : It) : (insX t l x).length = l.length + 1 := by
  have := backP_le t x l l.length
  unfold insX
  simp only [List.length_append, List.length_take, List.length_cons, List.length_drop]
  omega
theorem idxI_take {xs : List It} {t : List UInt8} {k : Nat} {x : It} (h : xs[k]? = some x) : idxI (xs.take (k + 1)) t = stepX t (idxI (xs.take k) t) x := by
  obtain ⟨hk, rfl⟩ := List.getElem?_eq_some_iff.1 h
  unfold idxI
  rw [List.take_succ_eq_append_getElem hk, List.foldl_append]
  rfl
theorem idxI_len (xs : List It) (t : List UInt8) : (idxI xs t).length ≤ xs.length := by
  have key : ∀ (xs l : List It), (xs.foldl (stepX t) l).length ≤ l.length + xs.length := by
    intro xs
    induction xs with
    | nil => intro l; exact Nat.le_refl _
    | cons x xs ih =>
      intro l
      have h1 := ih (stepX t l x)
      have h2 : (stepX t l x).length ≤ l.length + 1 := by
        unfold stepX
        split
        · rw [insX_len]; exact Nat.le_refl _
        · omega
      rw [List.foldl_cons, List.length_cons]
      omega
  have := key xs []
  simpa [idxI] using this
theorem idxI_mem {xs : List It} {t : List UInt8} : ∀ x ∈ idxI xs t, x ∈ xs ∧ getB x.l t = true := by
  have key : ∀ (xs l : List It), ∀ x ∈ xs.foldl (stepX t) l, x ∈ l ∨ (x ∈ xs ∧ getB x.l t = true) := by
    intro xs
    induction xs with
    | nil => intro l x hx; exact .inl hx
    | cons y ys ih =>
      intro l x hx
      rcases ih _ x hx with h | ⟨h, h2⟩
      · unfold stepX at h
        split at h
        · rename_i hb
          unfold insX at h
          rcases List.mem_append.1 h with h | h
          · exact .inl (List.mem_of_mem_take h)
          · rcases List.mem_cons.1 h with rfl | h
            · exact .inr ⟨List.mem_cons_self .., hb⟩
            · exact .inl (List.mem_of_mem_drop h)
        · exact .inl h
      · exact .inr ⟨List.mem_cons_of_mem _ h, h2⟩
  intro x hx
  rcases key xs [] x hx with h | h
  · cases h
  · exact h
def hitI (t : List UInt8) (n : Int) (x : It) : Bool := getB x.l t && getN x.l t == n
def withI (xs : List It) (t : List UInt8) (n : Int) : List It := xs.filter (hitI t n)
theorem withI_len (xs : List It) (t : List UInt8) (n : Int) : (withI xs t n).length ≤ xs.length := List.length_filter_le _ _
def adj7 (t : List UInt8) (l : List It) (i : Nat) : Bool := match l[i]?, l[i + 1]? with
  | some a, some b => getN a.l t == getN b.l t
  | _, _ => false
def ufO (t : List UInt8) (l : List It) : Option Nat := (List.range (l.length - 1)).find? (adj7 t l)
def zK : K := ⟨0, 0, ⟨#[]⟩⟩
def keyAt (l : List It) (i : Nat) : K := match l[i]? with
  | some x => x.k
  | none => zK
def ufA (t : List UInt8) (l : List It) : K := match ufO t l with
  | some i => keyAt l i
  | none => zK
def ufZ (t : List UInt8) (l : List It) : K := match ufO t l with
  | some i => keyAt l (i + 1)
  | none => zK
def ufB (t : List UInt8) (l : List It) : Bool := (ufO t l).isSome
theorem ufO_none {t : List UInt8} {l : List It} (h : ∀ j, j + 1 < l.length → adj7 t l j = false) : ufO t l = none := by
  unfold ufO
  rw [List.find?_eq_none]
  intro j hj
  have := List.mem_range.1 hj
  rw [h j (by omega)]
  exact Bool.false_ne_true
theorem ufO_some {t : List UInt8} {l : List It} {i : Nat} (hi : i + 1 < l.length) (h : adj7 t l i = true) (ha : ∀ j, j < i → adj7 t l j = false) : ufO t l = some i := by
  unfold ufO
  rw [List.find?_range_eq_some]
  refine ⟨h, List.mem_range.2 (by omega), fun j hj => ?_⟩
  rw [ha j hj]
  rfl

/-! ### cursors -/
structure Cu where
  r : R
  back : Bool
  st : Bool
  k : K
def Cu.v (x : Cu) : Value := .agg #[.bool x.r.hl, .bool x.r.hh, .int .i64 x.r.lo.kind, .int .i64 x.r.lo.n, .string x.r.lo.text, .int .i64 x.r.hi.kind, .int .i64 x.r.hi.n, .string x.r.hi.text, .bool x.back, .bool x.st, .int .i64 x.k.kind, .int .i64 x.k.n, .string x.k.text]
def Cu.to (x : Cu) (k : K) : Cu := ⟨x.r, x.back, true, k⟩
end Go.Proofs.Ytmnedjhfibmcnaa.L7

/-
  The mathematics of chapter 7's two promises: an index is in order; walking backwards gives the items in the opposite order. No condition.
-/
namespace Go.Proofs.Ytmnedjhfibmcnaa.L7
set_option maxRecDepth 100000
open L4 (K isK cmpK R inR encU)
open L5 (F isR isN cellsF encR eqR Small getO getN getB)
open L6 (It S6 isI isS isI_iff)
set_option linter.unusedVariables false
set_option linter.unusedSimpArgs false

theorem backP_spec (t : List UInt8) (x : It) (l : List It) : ∀ n, n ≤ l.length → (∀ j (hj : j < l.length), backP t x l n ≤ j → j < n → less7 t x l[j] = true) ∧ (∀ (h : 0 < backP t x l n) (hj : backP t x l n - 1 < l.length), less7 t x l[backP t x l n - 1] = false)
  | 0, _ => ⟨fun j hj h1 h2 => absurd h2 (by omega), fun h => absurd h (by unfold backP; omega)⟩
  | n + 1, hn => by
    have hx : l[n]? = some l[n] := List.getElem?_eq_getElem (by omega)
    cases hl : less7 t x l[n] with
    | true =>
      rw [backP_go hx hl]
      obtain ⟨h1, h2⟩ := backP_spec t x l n (by omega)
      refine ⟨fun j hj h3 h4 => ?_, h2⟩
      by_cases e : j = n
      · subst e; exact hl
      · exact h1 j hj h3 (by omega)
    | false =>
      rw [backP_stop hx hl]
      refine ⟨fun j hj h1 h2 => absurd h2 (by omega), fun h hj => ?_⟩
      simpa using hl
theorem ins_pair {r : It → It → Prop} {t : List UInt8} {x : It} {l : List It} (hl : l.Pairwise r) (h1 : ∀ y ∈ l, less7 t x y = true → r x y) (h2 : ∀ y ∈ l, less7 t x y = false → r y x) (h3 : ∀ a ∈ l, ∀ b ∈ l, r a b → r b x → r a x) : (insX t l x).Pairwise r := by
  have hp := backP_le t x l l.length
  obtain ⟨hA, hB⟩ := backP_spec t x l l.length (Nat.le_refl _)
  unfold insX
  generalize backP t x l l.length = p at hp hA hB
  have hsplit : l.take p ++ l.drop p = l := List.take_append_drop p l
  have hpw := hl
  rw [← hsplit, List.pairwise_append] at hpw
  obtain ⟨q1, q2, q3⟩ := hpw
  rw [List.pairwise_append]
  refine ⟨q1, List.pairwise_cons.2 ⟨fun y hy => ?_, q2⟩, fun a ha b hb => ?_⟩
  · obtain ⟨i, hi, e⟩ := List.getElem_of_mem hy
    rw [List.getElem_drop] at e
    have hi' : p + i < l.length := by rw [List.length_drop] at hi; omega
    exact h1 y (List.mem_of_mem_drop hy) (by rw [← e]; exact hA _ hi' (by omega) hi')
  · rcases List.mem_cons.1 hb with rfl | hb
    · obtain ⟨i, hi, e⟩ := List.getElem_of_mem ha
      rw [List.getElem_take] at e
      have hip : i < p := by rw [List.length_take] at hi; omega
      have hil : i < l.length := by omega
      have hlast : r l[p - 1] b := h2 _ (List.getElem_mem (by omega)) (hB (by omega) (by omega))
      by_cases hi1 : i = p - 1
      · subst hi1; rw [← e]; exact hlast
      · have hr : r l[i] l[p - 1] := List.pairwise_iff_getElem.1 hl i (p - 1) hil (by omega) (by omega)
        rw [← e]
        exact h3 _ (List.getElem_mem hil) _ (List.getElem_mem (by omega)) hr hlast
    · exact q3 a ha b hb
theorem idxI_nums (xs : List It) (t : List UInt8) : (idxI xs t).Pairwise fun a b => getN a.l t ≤ getN b.l t := by
  have key : ∀ (xs l : List It), l.Pairwise (fun a b => getN a.l t ≤ getN b.l t) → (xs.foldl (stepX t) l).Pairwise fun a b => getN a.l t ≤ getN b.l t := by
    intro xs
    induction xs with
    | nil => intro l h; exact h
    | cons x xs ih =>
      intro l h
      refine ih _ ?_
      unfold stepX
      split
      · refine ins_pair h (fun y _ hl => ?_) (fun y _ hl => ?_) (fun a _ b _ => fun h1 h2 => Int.le_trans h1 h2)
        · unfold less7 at hl
          simp only [Bool.or_eq_true, Bool.and_eq_true, decide_eq_true_eq, beq_iff_eq] at hl
          omega
        · unfold less7 at hl
          simp only [Bool.or_eq_false_iff, decide_eq_false_iff_not] at hl
          have := hl.1
          omega
      · exact h
  exact key xs [] List.Pairwise.nil
theorem isI_pair {xs : List It} (h : isI xs = true) : xs.Pairwise fun a b => isK a.k = true ∧ isK b.k = true ∧ cmpK a.k b.k < 0 := by
  obtain ⟨h1, h2⟩ := isI_iff.1 h
  rw [List.pairwise_iff_getElem]
  have key : ∀ d i (hi : i < xs.length) (hj : i + d + 1 < xs.length), cmpK xs[i].k xs[i + d + 1].k < 0 := by
    intro d
    induction d with
    | zero => intro i hi hj; exact h2 i hj
    | succ d ih =>
      intro i hi hj
      have a := ih i hi (by omega)
      have b := h2 (i + d + 1) (by omega)
      have ki := (h1 i hi).1
      have kj := (h1 (i + d + 1) (by omega)).1
      have kk := (h1 (i + d + 1 + 1) (by omega)).1
      have c := L4.cmpK_trans ki kj kk (by omega) (by omega)
      by_cases e : cmpK xs[i].k xs[i + d + 1 + 1].k = 0
      · have e2 := (L4.cmpK_zero ki kk).1 e
        rw [← e2, L4.cmpK_swap] at b
        omega
      · have e3 : cmpK xs[i].k xs[i + d + 1 + 1].k < 0 := by omega
        exact e3
  intro i j hi hj hij
  obtain ⟨d, rfl⟩ : ∃ d, j = i + d + 1 := ⟨j - i - 1, by omega⟩
  exact ⟨(h1 i hi).1, (h1 _ hj).1, key d i hi hj⟩
def lt7 (t : List UInt8) (a b : It) : Prop := isK a.k = true ∧ isK b.k = true ∧ (getN a.l t < getN b.l t ∨ (getN a.l t = getN b.l t ∧ cmpK a.k b.k < 0))
theorem cmp_lt_trans {a b c : K} (ha : isK a = true) (hb : isK b = true) (hc : isK c = true) (h1 : cmpK a b < 0) (h2 : cmpK b c < 0) : cmpK a c < 0 := by
  have h := L4.cmpK_trans ha hb hc (by omega) (by omega)
  by_cases e : cmpK a c = 0
  · have e2 := (L4.cmpK_zero ha hc).1 e
    subst e2
    rw [L4.cmpK_swap] at h2
    omega
  · omega
theorem lt7_trans {t : List UInt8} {a b c : It} (h1 : lt7 t a b) (h2 : lt7 t b c) : lt7 t a c := by
  obtain ⟨ka, kb, h1⟩ := h1
  obtain ⟨-, kc, h2⟩ := h2
  refine ⟨ka, kc, ?_⟩
  rcases h1 with h1 | ⟨h1, h3⟩ <;> rcases h2 with h2 | ⟨h2, h4⟩
  · exact .inl (by omega)
  · exact .inl (by omega)
  · exact .inl (by omega)
  · exact .inr ⟨by omega, cmp_lt_trans ka kb kc h3 h4⟩
theorem idxI_keys {xs : List It} (h : isI xs = true) (t : List UInt8) : (idxI xs t).Pairwise (lt7 t) := by
  have key : ∀ (ys zs l : List It), ys ++ zs = xs → (∀ y ∈ l, y ∈ ys) → l.Pairwise (lt7 t) → (zs.foldl (stepX t) l).Pairwise (lt7 t) := by
    intro ys zs
    induction zs generalizing ys with
    | nil => intro l _ _ hl; exact hl
    | cons x zs ih =>
      intro l e hs hl
      have hsub : ∀ y ∈ stepX t l x, y ∈ ys ++ [x] := by
        intro y hy
        unfold stepX at hy
        split at hy
        · unfold insX at hy
          rcases List.mem_append.1 hy with hy | hy
          · exact List.mem_append_left _ (hs y (List.mem_of_mem_take hy))
          · rcases List.mem_cons.1 hy with rfl | hy
            · exact List.mem_append_right _ (List.mem_singleton.2 rfl)
            · exact List.mem_append_left _ (hs y (List.mem_of_mem_drop hy))
        · exact List.mem_append_left _ (hs y hy)
      refine ih (ys ++ [x]) _ (by rw [List.append_assoc]; exact e) hsub ?_
      unfold stepX
      split
      · have hp := isI_pair h
        rw [← e, List.pairwise_append] at hp
        have hc : ∀ y ∈ l, isK y.k = true ∧ isK x.k = true ∧ cmpK y.k x.k < 0 := fun y hy => hp.2.2 y (hs y hy) x (List.mem_cons_self ..)
        refine ins_pair hl (fun y hy hl => ?_) (fun y hy hl => ?_) (fun a _ b _ => lt7_trans)
        · obtain ⟨k1, k2, k3⟩ := hc y hy
          unfold less7 at hl
          simp only [Bool.or_eq_true, Bool.and_eq_true, decide_eq_true_eq, beq_iff_eq] at hl
          rcases hl with hl | ⟨hl, h4⟩
          · exact ⟨k2, k1, .inl hl⟩
          · exact ⟨k2, k1, .inr ⟨hl, h4⟩⟩
        · obtain ⟨k1, k2, k3⟩ := hc y hy
          unfold less7 at hl
          simp only [Bool.or_eq_false_iff, decide_eq_false_iff_not] at hl
          have h5 := hl.1
          by_cases e2 : getN y.l t = getN x.l t
          · exact ⟨k1, k2, .inr ⟨e2, k3⟩⟩
          · exact ⟨k1, k2, .inl (by omega)⟩
      · exact hl
  exact key [] xs [] rfl (fun y hy => by cases hy) List.Pairwise.nil
theorem withI_pos {xs : List It} {t : List UInt8} {x : It} (h : x ∈ idxI xs t) : 1 ≤ (withI xs t (getN x.l t)).length := by
  obtain ⟨h1, h2⟩ := idxI_mem x h
  have : x ∈ withI xs t (getN x.l t) := List.mem_filter.2 ⟨h1, by unfold hitI; rw [h2]; simp⟩
  exact List.length_pos_of_mem this

/-! ### cursors -/
end Go.Proofs.Ytmnedjhfibmcnaa.L7

/-
  Mathematics of drawn stores: what a put and an automatic key leave of a store whose automatic keys are new. No condition.
-/
namespace Go.Proofs.Ytmnedjhfibmcnaa.L6
set_option maxRecDepth 100000
open L4 (K isK cmpK R inR encU)
open L5 (F isR isN cellsF encR eqR Small)
set_option linter.unusedVariables false
def Cov (s : S6) : Prop := ∀ x ∈ s.items, x.k.kind = 1 → x.k.n ≤ 1000000 → x.k.n ≤ s.auto
structure Nice (s : S6) (b : Int) : Prop where
  valid : isS s = true
  cov : Cov s
  auto : s.auto ≤ b
  fit : FitS s
theorem nextAuto_le {auto b : Int} {k : K} (h : auto ≤ b) (hk : k.kind = 1 → k.n ≤ b ∨ 1000000 < k.n) : nextAuto auto k ≤ b := by
  unfold nextAuto
  split
  · rename_i h1
    simp only [Bool.and_eq_true, beq_iff_eq, L1.inB_true] at h1
    rcases hk h1.1 with h2 | h2
    · exact h2
    · omega
  · exact h
theorem nextAuto_ge (auto : Int) (k : K) : auto ≤ nextAuto auto k := by
  unfold nextAuto
  split
  · rename_i h1
    simp only [Bool.and_eq_true, beq_iff_eq, L1.inB_true] at h1
    omega
  · omega
theorem nextAuto_own (auto : Int) (k : K) (h1 : k.kind = 1) (h2 : k.n ≤ 1000000) : k.n ≤ nextAuto auto k := by
  unfold nextAuto
  split
  · exact Int.le_refl _
  · rename_i h3
    rw [h1, show ((1 : Int) == 1) = true from rfl, Bool.true_and] at h3
    have h4 : ¬ (auto + 1 ≤ k.n ∧ k.n ≤ 1000000) := fun h => h3 (L1.inB_true.2 h)
    omega
theorem Nice.put {s : S6} {b : Int} {k : K} {l : List F} (h : Nice s b) (hk : k.kind = 1 → k.n ≤ b ∨ 1000000 < k.n) (hz : FitI ⟨k, l⟩) : Nice (putI s k l).1 b := by
  refine ⟨putI_valid k l h.valid, ?_, ?_, FitS_put h.fit hz⟩
  · unfold putI
    split
    · cases hf : fndO s.items k with
      | some i =>
        obtain ⟨hi, hki⟩ := fndO_some hf
        intro x hx h1 h2
        rcases List.mem_or_eq_of_mem_set hx with h3 | h3
        · exact h.cov x h3 h1 h2
        · subst h3
          have h4 := h.cov s.items[i] (List.getElem_mem hi)
          rw [hki] at h4
          exact h4 h1 h2
      | none =>
        dsimp only
        split
        · exact h.cov
        · intro x hx h1 h2
          show x.k.n ≤ nextAuto s.auto k
          have h5 := nextAuto_ge s.auto k
          rcases List.mem_append.1 hx with h3 | h3
          · have := h.cov x (List.mem_of_mem_take h3) h1 h2
            omega
          · rcases List.mem_cons.1 h3 with h4 | h4
            · subst h4
              exact nextAuto_own s.auto k h1 h2
            · have := h.cov x (List.mem_of_mem_drop h4) h1 h2
              omega
    · exact h.cov
  · unfold putI
    split
    · cases hf : fndO s.items k with
      | some i => exact h.auto
      | none =>
        dsimp only
        split
        · exact h.auto
        · exact nextAuto_le h.auto hk
    · exact h.auto
theorem isR_nil : isR [] = true := by
  rw [L5.isR_iff]
  exact ⟨fun i j h => absurd h (by simp), by simp⟩
theorem Nice.step {s : S6} {b : Int} (h : Nice s b) (hb : b < 1000000) (hl : s.items.length < 16) : Nice (autoS s []) (b + 1) ∧ (autoS s []).items.length = s.items.length + 1 ∧ autoB s [] = true := by
  obtain ⟨h1, h2, h3, h4, h5⟩ := isS_iff.1 h.valid
  have ha := h.auto
  have hnf : fndO s.items (autoK s) = none := by
    cases hf : fndO s.items (autoK s) with
    | none => rfl
    | some i =>
      obtain ⟨hi, hki⟩ := fndO_some hf
      have h6 := h.cov s.items[i] (List.getElem_mem hi)
      rw [hki] at h6
      have h7 : s.auto + 1 ≤ s.auto := h6 rfl (by show s.auto + 1 ≤ 1000000; omega)
      omega
  have hk : isK (autoK s) = true := L4.isK_iff.2 ⟨by show (1 : Int) ≤ 1; decide, by show (1 : Int) ≤ 3; decide, by show -1000000000000 ≤ s.auto + 1; omega, by show s.auto + 1 ≤ 1000000000000; omega, (by intro h; exact absurd h (by show ¬ (1 : Int) = 2; decide)), rfl, fun _ => rfl⟩
  have hadd : addI s (autoK s) [] = putI s (autoK s) [] := by
    unfold addI
    rw [if_neg (by unfold fndI; rw [hnf]; decide)]
  have hput : putI s (autoK s) [] = (⟨s.name, s.items.take (posI s.items (autoK s)) ++ ⟨autoK s, []⟩ :: s.items.drop (posI s.items (autoK s)), nextAuto s.auto (autoK s)⟩, true) := by
    unfold putI
    rw [h.valid, hk, isR_nil, hnf]
    show (if 16 ≤ s.items.length then _ else _) = _
    rw [if_neg (by omega)]
  have hB : autoB s [] = true := by
    unfold autoB
    rw [hadd, hput, decide_eq_false (by omega)]
    rfl
  have hS : autoS s [] = (putI s (autoK s) []).1 := by
    unfold autoS
    rw [hB, hadd]
    rfl
  refine ⟨?_, ?_, hB⟩
  · rw [hS]
    exact Nice.put ⟨h.valid, h.cov, by omega, h.fit⟩ (fun _ => .inl (by show s.auto + 1 ≤ b + 1; omega)) ⟨by show (0 : Nat) ≤ _; omega, by show (0 : Nat) ≤ _; omega, fun f hf => by cases hf⟩
  · rw [hS, hput]
    have := posI_le s.items (autoK s)
    simp
    omega
theorem Nice.start {n : ByteArray} (h : isN n.data.toList = true) (hn : n.size ≤ 281474976710656) : Nice ⟨n, [], 0⟩ 256 :=
  ⟨isS_iff.2 ⟨isI_iff.2 ⟨fun i h => absurd h (by simp), fun i h => absurd h (by simp)⟩, h, (by simp), (by show (0 : Int) ≤ 0; decide), (by show (0 : Int) ≤ 1000000; decide)⟩, (fun x hx => by cases hx), (by show (0 : Int) ≤ 256; decide), ⟨hn, (by show (0 : Nat) ≤ _; omega), (fun x hx => by cases hx)⟩⟩
end Go.Proofs.Ytmnedjhfibmcnaa.L6

/-
  Drawn keys and the bounds of their numbers. No condition.
-/
namespace Go.Proofs.Ytmnedjhfibmcnaa.Sd
set_option maxRecDepth 100000
open Go.ChangeShapes Go.WideShapes Go.ChangeAt Go.RowKit Mem Sl Ex Draw L2 L4
set_option linter.unusedVariables false

def Low (k : K) : Prop := L4.Good k ∧ k.text.size ≤ 12 ∧ (k.kind = 1 → k.n ≤ 256 ∨ 1000000 < k.n)
section
variable {W w : World} {rs : List Res} {c : Nat}
theorem number_n (h : Sep W w rs) (i : Nat) (hi : rs[i]? = some (curR W c)) :
    Calls Try.prog 153 #[.pointer (some ⟨c, 0, none⟩)] w fun e w' => ∃ n, e = .returned (.int .i64 n) ∧ (-1000000000000 ≤ n ∧ n ≤ 1000000000000 ∧ (n ≤ 256 ∨ 1000000 < n)) ∧ Sep W w' rs := by
  have H := Lib.hid h
  have HI := Lib.hid hi
  clear h hi
  go_enter Try.func153, Try.ntmps153
  go_wp2_with fail
  go_at_call 108
  refine (below_s H.out i HI.out _ (by decide) (by decide)).mono ?_
  rintro e w1 ⟨x, rfl, ⟨hx0, hx1⟩, h1⟩
  go_wp2_with fail
  go_at_call 110
  refine (int_sg h1 i HI.out [0, 1, 2, -1, 255, 256, -1000000000000, 1000000000000, x] (fun n => -1000000000000 ≤ n ∧ n ≤ 1000000000000 ∧ (n ≤ 256 ∨ 1000000 < n)) (by intro v hv; simp at hv; omega) 9 rfl (by decide) (by decide) _ rfl).mono ?_
  rintro e w2 ⟨n, rfl, hn, h2⟩
  go_wp2_with fail
  go_ret
  exact ⟨_, rfl, hn, h2⟩
theorem small_n (h : Sep W w rs) (i : Nat) (hi : rs[i]? = some (curR W c)) :
    Calls Try.prog 115 #[.pointer (some ⟨c, 0, none⟩)] w fun e w' => ∃ k : K, e = .returned k.v ∧ Low k ∧ Sep W w' rs := by
  have H := Lib.hid (push_box h 28 #[.int .i64 0, .int .i64 0, .string ⟨#[]⟩] w.heap.size rfl)
  have HI := Lib.hid (at_left (m := [boxR w.heap.size 28 #[.int .i64 0, .int .i64 0, .string ⟨#[]⟩]]) hi)
  clear h hi
  go_enter Try.func115, Try.ntmps115
  go_wp2_with fail
  go_at_call 108
  refine (below_s H.out i HI.out _ (by decide) (by decide)).mono ?_
  rintro e w1 ⟨x, rfl, ⟨hx0, hx1⟩, h1⟩
  obtain ⟨z0, z1, z2, f0, f1, f2⟩ := box_facts h1
  have HE := Lib.hid h1
  clear h1
  go_wp2_with fail
  refine bodyPost_ret (v := K.v ⟨1, x, ⟨#[]⟩⟩) (by simp [results, Try.results115, go_sem, K.v, z0, z1, z2]) rfl ?_
  exact ⟨_, rfl, ⟨good1 (by omega) (by omega), by show (0 : Nat) ≤ 12; omega, fun _ => .inl (by show x ≤ 256; omega)⟩, box_end HE.out _ _ _⟩
theorem key_n (h : Sep W w rs) (i : Nat) (hi : rs[i]? = some (curR W c)) :
    Calls Try.prog 136 #[.pointer (some ⟨c, 0, none⟩)] w fun e w' => ∃ k : K, e = .returned k.v ∧ Low k ∧ Sep W w' rs := by
  have H := Lib.hid (push_box h 28 #[.int .i64 0, .int .i64 0, .string ⟨#[]⟩] w.heap.size rfl)
  have HI := Lib.hid (at_left (m := [boxR w.heap.size 28 #[.int .i64 0, .int .i64 0, .string ⟨#[]⟩]]) hi)
  clear h hi
  go_enter Try.func136, Try.ntmps136
  go_wp2_with fail
  go_at_call 109
  refine (str_sg H.out i HI.out [⟨#[]⟩, ⟨#[97]⟩, ⟨#[97, 98]⟩, ⟨#[98]⟩, ⟨#[122, 57]⟩, ⟨#[97, 98, 99, 100, 101, 102, 103, 104, 105, 106, 107, 108]⟩] (fun s => isT s.data.toList = true ∧ s.size ≤ 12) (by decide) 6 rfl (by decide) (by decide) _ (by simp)).mono ?_
  rintro e w1 ⟨s, rfl, ⟨hs, hs2⟩, h1⟩
  have HS := Lib.hid hs
  clear hs
  go_wp2_with fail
  go_at_call 108
  refine (below_s h1 i HI.out _ (by decide) (by decide)).mono ?_
  rintro e w2 ⟨x, rfl, ⟨hx0, hx1⟩, h2⟩
  clear h1
  by_cases hx : x = 0
  · subst hx
    obtain ⟨z0, z1, z2, f0, f1, f2⟩ := box_facts h2
    have HE := Lib.hid h2
    clear h2
    go_wp2_with fail
    refine bodyPost_ret (v := K.v ⟨2, 0, s⟩) (by simp [results, Try.results136, go_sem, K.v, z0, z1, z2]) rfl ?_
    exact ⟨_, rfl, ⟨good2 HS.out, hs2, fun h => absurd h (by show ¬ (2 : Int) = 1; decide)⟩, box_end HE.out _ _ _⟩
  · have hx' : (x == 0) = false := by simp [hx]
    by_cases hy : x = 1
    · subst hy
      go_wp2_with fail
      go_at_call 153
      refine (number_n h2 i HI.out).mono ?_
      rintro e w3 ⟨n, rfl, ⟨hn0, hn1, hn2⟩, h3⟩
      clear h2
      obtain ⟨z0, z1, z2, f0, f1, f2⟩ := box_facts h3
      have HE := Lib.hid h3
      clear h3
      go_wp2_with fail
      refine bodyPost_ret (v := K.v ⟨3, n, s⟩) (by simp [results, Try.results136, go_sem, K.v, z0, z1, z2]) rfl ?_
      exact ⟨_, rfl, ⟨good3 hn0 hn1 HS.out, hs2, fun h => absurd h (by show ¬ (3 : Int) = 1; decide)⟩, box_end HE.out _ _ _⟩
    · have hy' : (x == 1) = false := by simp [hy]
      go_wp2_with fail
      go_at_call 153
      refine (number_n h2 i HI.out).mono ?_
      rintro e w3 ⟨n, rfl, ⟨hn0, hn1, hn2⟩, h3⟩
      clear h2
      obtain ⟨z0, z1, z2, f0, f1, f2⟩ := box_facts h3
      have HE := Lib.hid h3
      clear h3
      go_wp2_with fail
      refine bodyPost_ret (v := K.v ⟨1, n, ⟨#[]⟩⟩) (by simp [results, Try.results136, go_sem, K.v, z0, z1, z2]) rfl ?_
      exact ⟨_, rfl, ⟨good1 hn0 hn1, by show (⟨#[]⟩ : ByteArray).size ≤ 12; decide, fun _ => hn2⟩, box_end HE.out _ _ _⟩
end
end Go.Proofs.Ytmnedjhfibmcnaa.Sd

/-
  The contracts of chapter 5's functions of the program that only read: IsName, GetField, copyRecord. Conditions: a name of at most 2^48 bytes, a record of at most 2^40 fields.
-/
namespace Go.Proofs.Ytmnedjhfibmcnaa.L5
set_option maxRecDepth 100000
open Go.Op (bytesLess)
open Go.ChangeShapes Go.WideShapes Go.ChangeAt Go.RowKit Mem Sl Ex L2 Sv
set_option linter.unusedVariables false

set_option maxHeartbeats 1000000 in
theorem getField_any (a : Option Addr) (c : Nat) (l : List F) (s : ByteArray) (hl : l.length ≤ 1099511627776) (w : World) (hr : Reads w w.heap.size a (cellsF l)) :
    Calls Try.prog 82 #[.agg #[.slice a l.length c], .string s] w fun e w' => e = .returned (.tuple #[.int .i64 (getN l s.data.toList), .bool (getB l s.data.toList)]) ∧ Below w.heap.size w w' := by
  have HBL := Lib.hid (below_alloc (Below.refl w.heap.size w) (.cells #[.slice a l.length c] 41) (Nat.le_refl _))
  have HR := Lib.hid (fun w' (h : Below w.heap.size w w') => hr.below h)
  obtain ⟨n, hn⟩ : ∃ n, n = l.length := ⟨_, rfl⟩
  rw [← hn] at HBL ⊢
  rw [← hn] at hl
  have HN := Lib.hid hn
  clear hn hr
  have hl' : (n : Int) ≤ 1099511627776 := by omega
  go_enter Try.func82, Try.ntmps82
  go_wp2_with fail
  go_loopw [11] (fun i wr => ∃ k : Nat, k ≤ n ∧ i = .int .i64 k ∧ Hid (Below w.heap.size w wr ∧ ∀ j (hj : j < l.length), j < k → l[j].t ≠ s.data.toList)) (fun i _ => n - (intOf i).toNat)
  case atStart => exact ⟨0, Nat.zero_le _, rfl, HBL.out, fun j hj h => by omega⟩
  case round =>
    obtain ⟨k, hk, rfl, hrel⟩ := hrel
    by_cases hlt : (k : Int) < (n : Int)
    · have hkl : k < l.length := by have := HN.out; omega
      obtain ⟨ad, rfl, had, h1, h2⟩ := readsF (HR.out _ hrel.out.1) k hkl
      obtain ⟨t, ht⟩ : ∃ t, t = l[k].name := ⟨_, rfl⟩
      obtain ⟨m, hm⟩ : ∃ m, m = l[k].n := ⟨_, rfl⟩
      rw [← ht] at h1
      rw [← hm] at h2
      have HW := Lib.hid (below_alloc hrel.out.1 (.cells #[.string t, .int .i64 m] 107) (Nat.le_refl _))
      by_cases he : t.data.toList = s.data.toList
      · have heq : (t.toList == s.toList) = true := by rw [ByteArray.toList_eq, ByteArray.toList_eq, he, beq_self_eq_true]
        have HG := Lib.hid (getO_at k hkl (show l[k].t = s.data.toList by unfold F.t; rw [← ht]; exact he) hrel.out.2)
        rw [← hm] at HG
        clear ht hm he
        go_wp2_with fail
        go_ret2
        exact ⟨by unfold getN getB; rw [HG.out]; rfl, HW.out⟩
      · have heq : (t.toList == s.toList) = false := by rw [ByteArray.toList_eq, ByteArray.toList_eq, beq_eq_false_iff_ne]; exact he
        have HT := Lib.hid (show l[k].t ≠ s.data.toList by unfold F.t; rw [← ht]; exact he)
        clear ht hm he
        go_wp2_with fail
        go_roundw
        case rel => exact ⟨k + 1, by omega, by go_num, HW.out, fun j hj h => by
          by_cases e : j < k
          · exact hrel.out.2 j hj e
          · obtain rfl : j = k := by omega
            exact HT.out⟩
        case measure => simp [intOf]; omega
    · go_wp2_with fail
      go_ret2
      have HG := getO_none (l := l) (name := s.data.toList) (fun j hj => hrel.out.2 j hj (by have := HN.out; omega))
      exact ⟨by unfold getN getB; rw [HG]; rfl, hrel.out.1⟩
end Go.Proofs.Ytmnedjhfibmcnaa.L5

/-
  The contract of chapter 5's IsRecord of the program. Conditions: names of at most 2^48 bytes, a record of at most 2^40 fields. (The region that draws its order is written by my program gen_l5ib.py.)
-/
namespace Go.Proofs.Ytmnedjhfibmcnaa.L5
set_option maxRecDepth 100000
open Go.Op (bytesLess)
open L4 (boxR push_box box_at)
open Go.ChangeShapes Go.WideShapes Go.ChangeAt Go.RowKit Mem Sl Ex L2 Sv
set_option linter.unusedVariables false
set_option linter.unusedSimpArgs false

theorem Row.two {w : World} {g : Nat} {t : TypeId} {x y : Value} (h : Row w g t #[x, y]) : w.cell? ⟨g, 0, none⟩ = some x ∧ w.cell? ⟨g, 1, none⟩ = some y := ⟨by rw [h.cell]; rfl, by rw [h.cell]; rfl⟩
end Go.Proofs.Ytmnedjhfibmcnaa.L5

/-
  What a valid record gives: its fields' names and numbers. No condition.
-/
namespace Go.Proofs.Ytmnedjhfibmcnaa.L5
set_option maxRecDepth 100000
open L4 (boxR push_box box_at)
open Go.ChangeShapes Go.WideShapes Go.ChangeAt Go.RowKit Mem Sl Ex L2 Sv
set_option linter.unusedVariables false
set_option linter.unusedSimpArgs false

theorem sep_two {W w : World} {r0 r1 : Res} {ts : List Res} (h : Sep W w (r0 :: r1 :: ts)) : Sep W w [r0, r1] :=
  sep_sub h (fun i => i) (fun i r hr => by
    match i, hr with
    | 0, hr => exact hr
    | 1, hr => exact hr
    | i + 2, hr => simp at hr) (fun i j _ _ e => e)
end Go.Proofs.Ytmnedjhfibmcnaa.L5

/-
  Plain mathematics of chapter 5: a record in ascending order of its names is what it holds at each name; what setting, removing and merging make of that. No condition.
-/
namespace Go.Proofs.Ytmnedjhfibmcnaa.L5
set_option maxRecDepth 100000
open Go.Op (bytesLess)
open L4 (less_irrefl less_total less_asymm less_trans)
set_option linter.unusedVariables false

/-! ### removing -/
/-! ### setting -/
theorem posF_cons (x : F) (l : List F) (s : ByteArray) : posF (x :: l) s = if bytesLess x.t s.data.toList then posF l s + 1 else 0 := by
  unfold posF
  rw [List.takeWhile_cons]
  split <;> simp
theorem putF_nil (s : ByteArray) (x : Int) : putF [] s x = [⟨s, x⟩] := rfl
theorem putF_cons (f : F) (l : List F) (s : ByteArray) (x : Int) : putF (f :: l) s x = if bytesLess f.t s.data.toList then f :: putF l s x else if f.t = s.data.toList then ⟨f.name, x⟩ :: l else ⟨s, x⟩ :: f :: l := by
  unfold putF
  rw [posF_cons]
  by_cases h : bytesLess f.t s.data.toList = true
  · rw [if_pos h, if_pos h, List.getElem?_cons_succ]
    cases h2 : l[posF l s]? with
    | none => simp
    | some g =>
      simp only
      by_cases h3 : g.t = s.data.toList
      · rw [if_pos h3, if_pos h3, List.set_cons_succ]
      · rw [if_neg h3, if_neg h3, List.take_succ_cons, List.drop_succ_cons]; rfl
  · rw [if_neg h, if_neg h, List.getElem?_cons_zero]
    simp only
    by_cases h3 : f.t = s.data.toList
    · rw [if_pos h3, if_pos h3, List.set_cons_zero]
    · rw [if_neg h3, if_neg h3, List.take_zero, List.drop_zero]; rfl
theorem name_of_bytes {f : F} {s : ByteArray} (h : f.t = s.data.toList) : f.name = s := by
  obtain ⟨⟨⟨t1⟩⟩, n1⟩ := f
  obtain ⟨⟨t2⟩⟩ := s
  simp only [F.t] at h
  subst h
  rfl
theorem putF_mem {l : List F} {s : ByteArray} {x : Int} : ∀ g ∈ putF l s x, g ∈ l ∨ g = ⟨s, x⟩ := by
  induction l with
  | nil => intro g hg; rw [putF_nil] at hg; simp at hg; exact .inr hg
  | cons f r ih =>
    intro g hg
    rw [putF_cons] at hg
    split at hg
    · rcases List.mem_cons.1 hg with rfl | hg
      · exact .inl (by simp)
      · rcases ih g hg with h | h
        · exact .inl (by simp [h])
        · exact .inr h
    · split at hg
      · rename_i h2
        rcases List.mem_cons.1 hg with rfl | hg
        · exact .inr (by rw [name_of_bytes h2])
        · exact .inl (by simp [hg])
      · rcases List.mem_cons.1 hg with rfl | hg
        · exact .inr rfl
        · exact .inl hg
theorem putF_len (l : List F) (s : ByteArray) (x : Int) : (putF l s x).length ≤ l.length + 1 := by
  induction l with
  | nil => rw [putF_nil]; simp
  | cons f r ih =>
    rw [putF_cons]
    split
    · simp; omega
    · split <;> simp

/-! ### merging -/
end Go.Proofs.Ytmnedjhfibmcnaa.L5

/-
  Chapter 5: a list of short names stays one. No condition.
-/
namespace Go.Proofs.Ytmnedjhfibmcnaa.L5
set_option maxRecDepth 100000
open L4 (boxR push_box box_at)
open Go.ChangeShapes Go.WideShapes Go.ChangeAt Go.RowKit Mem Sl Ex L2 Sv
set_option linter.unusedVariables false
set_option linter.unusedSimpArgs false
theorem small_put {l : List F} {s : ByteArray} {x : Int} (h : Small l) (hs : s.size ≤ 281474976710656) : Small (putF l s x) := fun f hf => by
  rcases putF_mem f hf with h1 | rfl
  · exact h f h1
  · exact hs
end Go.Proofs.Ytmnedjhfibmcnaa.L5

/-
  Chapter 5's draws over several things that lie apart: l5Name, l5Record. No condition but that the code is a slice of bytes of at most 2^62 places.
-/
namespace Go.Proofs.Ytmnedjhfibmcnaa.L5
set_option maxRecDepth 100000
open L4 (boxR push_box box_at)
open Go.ChangeShapes Go.WideShapes Go.ChangeAt Go.RowKit Mem Sl Ex Draw L2 Sv
open Sd (curR at_left below_s once_s new_s str_sg int_sg drew_s cur_on moved put_r let_go drop gave)
set_option linter.unusedVariables false
set_option linter.unusedSimpArgs false

/-! ### things behind others -/
section
variable {W w w' : World} {rs ts us : List Res} {g : Nat} {t : TypeId} {cs : Array Value} {e : TypeId} {k : Nat} {a : Option Addr} {c n : Nat} {xs : List Value}
theorem at_r {α : Type} {l m : List α} {i : Nat} {x : α} (h : m[i]? = some x) : (l ++ m)[l.length + i]? = some x := by
  rw [List.getElem?_append_right (by omega)]
  simpa using h
theorem none_r (h : Sep W w rs) : Sep W w (rs ++ []) := by rwa [List.append_nil]
theorem one_r {x : Value} (h : Sep W w (rs ++ ts)) (i : Nat) (hi : ts[i]? = some (boxR g t #[x])) : w.cell? ⟨g, 0, none⟩ = some x ∧ w.frozen? ⟨g, 0, none⟩ = false := Row.one (box_at h (rs.length + i) (at_r hi))
theorem own_r (h : Sep W w (rs ++ ts)) (i : Nat) (hi : ts[i]? = some (ownV e k a c n xs)) : OwnV w 0 e k a c n xs := own_at h (rs.length + i) (at_r hi)
theorem push_r (h : Sep W w (rs ++ ts)) (hb : Below w.heap.size w w') (ho : OwnV w' w.heap.size e k a c n xs) : Sep W w' (rs ++ (ts ++ [ownV e k a c n xs])) := by
  have := push_own h hb ho
  rwa [List.append_assoc] at this
theorem box_r (h : Sep W w (rs ++ ts)) (t : TypeId) (cs : Array Value) (g : Nat) (hg : g = w.heap.size) : Sep W (w.alloc (.cells cs t)) (rs ++ (ts ++ [boxR g t cs])) := by
  have := push_box h t cs g hg
  rwa [List.append_assoc] at this
theorem take_r (h : Sep W w (rs ++ ts)) (is : List Nat) (he : is.map (fun i => ts[i]?) = us.map some) (hd : is.Nodup) : Sep W w (rs ++ us) := by
  have hl : is.length = us.length := by simpa using congrArg List.length he
  have at_ : ∀ i r, us[i]? = some r → ts[is.getD i 0]? = some r := fun i r hr => by
    have hi : i < us.length := (List.getElem?_eq_some_iff.1 hr).1
    have h2 := congrArg (fun l => l[i]?) he
    simp only [List.getElem?_map, List.getElem?_eq_getElem (show i < is.length by omega), hr, Option.map_some] at h2
    rw [List.getD_eq_getElem?_getD, List.getElem?_eq_getElem (show i < is.length by omega)]
    simpa using h2
  refine sep_sub h (fun i => if i < rs.length then i else rs.length + is.getD (i - rs.length) 0) (fun i r hr => ?_) (fun i j hi hj e => ?_)
  · by_cases hlt : i < rs.length
    · rw [if_pos hlt, List.getElem?_append_left hlt]
      rw [List.getElem?_append_left hlt] at hr
      exact hr
    · rw [if_neg hlt]
      rw [List.getElem?_append_right (by omega)] at hr
      exact at_r (at_ _ _ hr)
  · rw [List.length_append] at hi hj
    by_cases h1 : i < rs.length <;> by_cases h2 : j < rs.length
    · rw [if_pos h1, if_pos h2] at e; exact e
    · rw [if_pos h1, if_neg h2] at e; omega
    · rw [if_neg h1, if_pos h2] at e; omega
    · rw [if_neg h1, if_neg h2] at e
      have e2 : is.getD (i - rs.length) 0 = is.getD (j - rs.length) 0 := by omega
      simp only [List.getD_eq_getElem?_getD, List.getElem?_eq_getElem (show i - rs.length < is.length by omega), List.getElem?_eq_getElem (show j - rs.length < is.length by omega), Option.getD_some] at e2
      have := (List.getElem_inj hd).1 e2
      omega
end

/-! ### a literal of strings or numbers that lies among the things -/
section
variable {W w : World} {rs : List Res} {c g : Nat} {t : TypeId} {cs : Array Value}
theorem strB_s (h : Sep W w rs) (i : Nat) (hi : rs[i]? = some (curR W c)) (j : Nat) (hj : rs[j]? = some (boxR g t cs)) (hij : i ≠ j) (l : List ByteArray) (hcs : cs = (l.map Value.string).toArray) (P : ByteArray → Prop) (hP : ∀ v ∈ l, P v) (n : Nat) (hn : n = l.length) (h1 : 1 ≤ n) (h2 : n ≤ 1000) :
    Calls Try.prog 109 #[.pointer (some ⟨c, 0, none⟩), .slice (some ⟨g, 0, none⟩) n n] w fun e w' => ∃ s, e = .returned (.string s) ∧ P s ∧ Sep W w' rs := by
  subst hn
  subst hcs
  have hr := box_at h j hj
  have hs : Strs w P g l.length := fun q hq => by
    refine ⟨l[q], ?_, hP _ (List.getElem_mem hq)⟩
    rw [hr.cell]
    simp [hq]
  exact (l1Str_on g l.length h1 h2 hs (h.lies j _ hj g (by simp [boxR])).2 (fun e => h.apart i j _ _ hi hj hij c (by simp [curR]) (by simp [boxR, e])) (cur_on h i hi)).mono fun _ _ ⟨s, he, hs, ho⟩ => ⟨s, he, hs, moved h i hi ho⟩
theorem intB_s (h : Sep W w rs) (i : Nat) (hi : rs[i]? = some (curR W c)) (j : Nat) (hj : rs[j]? = some (boxR g t cs)) (hij : i ≠ j) (l : List Int) (hcs : cs = (l.map (Value.int .i64)).toArray) (P : Int → Prop) (hP : ∀ v ∈ l, P v) (n : Nat) (hn : n = l.length) (h1 : 1 ≤ n) (h2 : n ≤ 1000) :
    Calls Try.prog 110 #[.pointer (some ⟨c, 0, none⟩), .slice (some ⟨g, 0, none⟩) n n] w fun e w' => ∃ s, e = .returned (.int .i64 s) ∧ P s ∧ Sep W w' rs := by
  subst hn
  subst hcs
  have hr := box_at h j hj
  have hs : Ints w P g l.length := fun q hq => by
    refine ⟨l[q], ?_, hP _ (List.getElem_mem hq)⟩
    rw [hr.cell]
    simp [hq]
  exact (l1Int_on g l.length h1 h2 hs (h.lies j _ hj g (by simp [boxR])).2 (fun e => h.apart i j _ _ hi hj hij c (by simp [curR]) (by simp [boxR, e])) (cur_on h i hi)).mono fun _ _ ⟨s, he, hs, ho⟩ => ⟨s, he, hs, moved h i hi ho⟩
end

/-! ### records that a draw makes -/
def Tame (l : List F) (n : Nat) : Prop := l.length ≤ n ∧ Small l
theorem Tame.nil (n : Nat) : Tame [] n := ⟨Nat.zero_le _, fun f hf => by cases hf⟩
theorem Tame.mono {l : List F} {n m : Nat} (h : Tame l n) (hm : n ≤ m) : Tame l m := ⟨Nat.le_trans h.1 hm, h.2⟩
theorem Tame.set {l : List F} {n : Nat} (h : Tame l n) {s : ByteArray} (hs : s.size ≤ 281474976710656) (x : Int) : Tame (setL l s x) (n + 1) := by
  unfold setL
  split
  · exact ⟨by have := putF_len l s x; have := h.1; omega, small_put h.2 hs⟩
  · exact h.mono (by omega)
theorem Tame.app {l : List F} {n : Nat} (h : Tame l n) {s : ByteArray} (hs : s.size ≤ 281474976710656) (x : Int) : Tame (l ++ [⟨s, x⟩]) (n + 1) := by
  refine ⟨by rw [List.length_append]; have := h.1; simp; omega, fun f hf => ?_⟩
  rcases List.mem_append.1 hf with h1 | h1
  · exact h.2 f h1
  · rw [List.mem_singleton] at h1
    rw [h1]; exact hs

section
variable {W w : World} {rs : List Res} {c : Nat}
theorem name_s (h : Sep W w rs) (i : Nat) (hi : rs[i]? = some (curR W c)) :
    Calls Try.prog 80 #[.pointer (some ⟨c, 0, none⟩)] w fun e w' => ∃ s, e = .returned (.string s) ∧ s.size ≤ 5 ∧ Sep W w' rs := by
  have H := Lib.hid h
  have HI := Lib.hid hi
  clear h hi
  go_enter Try.func80, Try.ntmps80
  go_wp2_with fail
  go_at_call 109
  refine (str_sg H.out i HI.out [⟨#[97]⟩, ⟨#[98]⟩, ⟨#[99]⟩, ⟨#[100, 111, 110, 101]⟩, ⟨#[116, 105, 116, 108, 101]⟩] (fun s => s.size ≤ 5) (by decide) 5 rfl (by decide) (by decide) _ rfl).mono ?_
  rintro e w1 ⟨s, rfl, hs, h1⟩
  go_wp2_with fail
  go_ret
  exact ⟨s, rfl, hs, h1⟩
set_option maxHeartbeats 4000000 in
theorem rec_s (h : Sep W w rs) (i : Nat) (hi : rs[i]? = some (curR W c)) :
    Calls Try.prog 135 #[.pointer (some ⟨c, 0, none⟩)] w fun e w' => ∃ A C l, e = .returned (.agg #[.slice A l.length C]) ∧ Tame l 3 ∧ Sep W w' (rs ++ [ownV 107 2 A C l.length (cellsF l)]) := by
  have HI := Lib.hid hi
  have S1 := box_r (none_r h) 41 #[.slice none 0 0] w.heap.size rfl
  have S2 := box_r S1 41 #[.slice none 0 0] (w.heap.size + 1) (by simp)
  have S3 := Lib.hid (push_r S2 (Below.refl _ _) (OwnV.nil _ _ 107 2))
  clear h hi S1 S2
  go_enter Try.func135, Try.ntmps135
  go_wp2_with fail
  go_at_call 108
  refine (below_s S3.out i (at_left HI.out) _ (by decide) (by decide)).mono ?_
  rintro e w1 ⟨x, rfl, ⟨hx0, hx1⟩, S4'⟩
  have S4 := Lib.hid S4'
  clear S4' S3
  obtain ⟨x, rfl⟩ : ∃ j : Nat, x = j := ⟨x.toNat, by omega⟩
  go_wp2_with fail
  go_loopw [4] (fun v wr => ∃ j : Nat, j ≤ 3 ∧ v = .int .i64 j ∧ Hid (∃ A C l, Tame l (3 - j) ∧ Sep W wr (rs ++ [boxR w.heap.size 41 #[.slice none 0 0], boxR (w.heap.size + 1) 41 #[.slice A l.length C], ownV 107 2 A C l.length (cellsF l)]))) (fun v _ => (intOf v).toNat)
  case atStart => exact ⟨x, by omega, rfl, none, 0, [], Tame.nil _, S4.out⟩
  case round =>
    obtain ⟨j, hj, rfl, hrel⟩ := hrel
    obtain ⟨A, C, l, hT, S⟩ := hrel.out
    have S5 := Lib.hid S
    have HT := Lib.hid hT
    clear S hT hrel S4
    obtain ⟨b0, b0'⟩ := one_r S5.out 1 rfl
    obtain ⟨q0, q0'⟩ := one_r S5.out 0 rfl
    by_cases hlt : (0 : Int) < (j : Int)
    · have hset := fun (s : ByteArray) (hs : s.size ≤ 5) (y : Int) w' hr hc hz => specSetField_any A C l s y (by have := HT.out.1; omega) HT.out.2 (by omega) w' hr hc hz
      have HSet := Lib.hid hset
      clear hset
      go_wp2_with fail
      go_region_with (first
        | (go_at_call 80; refine (name_s (drew_s S5.out) i (at_left HI.out)).mono ?_; rintro e w2 ⟨s, rfl, hs, S6'⟩; have S6 := Lib.hid S6'; clear S6'; obtain ⟨b1, b1'⟩ := one_r S6.out 1 rfl)
        | (go_at_call 108; refine (below_s S6.out i (at_left HI.out) _ (by decide) (by decide)).mono ?_; rintro e w3 ⟨y, rfl, ⟨hy0, hy1⟩, S7'⟩; have S7 := Lib.hid S7'; clear S7'; obtain ⟨b2, b2'⟩ := one_r S7.out 1 rfl)
        | (go_at_call 138; refine (HSet.out s hs y _ (own_r S7.out 2 rfl).reads (own_r S7.out 2 rfl).cap (own_zero (own_r S7.out 2 rfl))).mono ?_; rintro e w4 h8; obtain ⟨A2, C2, rfl, ho, hb⟩ := h8; have S8 := Lib.hid (push_r S7.out hb ho); clear ho hb; obtain ⟨b3, b3'⟩ := one_r S8.out 1 rfl))
      all_goals
        have S9 := Lib.hid (take_r (us := [boxR w.heap.size 41 #[.slice none 0 0], boxR (w.heap.size + 1) 41 #[.slice A2 (setL l s y).length C2], ownV 107 2 A2 C2 (setL l s y).length (cellsF (setL l s y))]) (put_r S8.out 1 rfl 0 (.slice A2 (setL l s y).length C2)) [0, 1, 3] (by rfl) (by decide))
        have HT2 := Lib.hid (HT.out.set (show s.size ≤ 281474976710656 by omega) y)
        clear b0 b0' b1 b1' b2 b2' b3 b3' q0 q0'
        go_wp2_with fail
        go_roundw
        case rel => exact ⟨j - 1, by omega, by go_num, A2, C2, setL l s y, by have := HT2.out; rwa [show 3 - j + 1 = 3 - (j - 1) by omega] at this, S9.out⟩
        case measure => simp [intOf]; omega
    · go_wp2_with fail
      refine bodyPost_ret (v := .agg #[.slice A l.length C]) (by simp [results, Try.results135, go_sem, q0]) rfl ?_
      refine ⟨A, C, l, rfl, HT.out.mono (by omega), take_r (put_r S5.out 0 rfl 0 (.slice A l.length C)) [2] (by rfl) (by decide)⟩
end
end Go.Proofs.Ytmnedjhfibmcnaa.L5

/-
  The contract of chapter 5's DecodeRecord of the specification. Condition: at most 2^40 bytes.
-/
namespace Go.Proofs.Ytmnedjhfibmcnaa.L5
set_option maxRecDepth 100000
open L4 (boxR push_box box_at)
open Go.ChangeShapes Go.WideShapes Go.ChangeAt Go.RowKit Mem Sl Ex L2 Sv
set_option linter.unusedVariables false
set_option linter.unusedSimpArgs false

def decL (l : List Int) : List F := (decR l).getD []
def decB (l : List Int) : Bool := (decR l).isSome
end Go.Proofs.Ytmnedjhfibmcnaa.L5

