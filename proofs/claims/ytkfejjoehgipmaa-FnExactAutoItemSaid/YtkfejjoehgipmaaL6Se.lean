/-
  The contract of chapter 6's PutItem of the specification. Conditions: keys' texts of at most 2^40 bytes, at most 2^20 fields and items. (Written by my program gen_l6e.py.)
-/
import Derived.Test.YtkfejjoehgipmaaTk
import Derived.Test.YtkfejjoehgipmaaL6Sb
import Derived.Test.YtkfejjoehgipmaaL5Rd
namespace Go.Proofs.Ytkfejjoehgipmaa.L6
set_option maxRecDepth 100000
open L4 (K isK cmpK R inR encU)
open L5 (F isR isN cellsF encR eqR Small)
open Go.ChangeShapes Go.WideShapes Go.ChangeAt Go.RowKit Mem Sl Ex L2 Sv Bag
set_option linter.unusedVariables false
set_option linter.unusedSimpArgs false

theorem cellsI_set3 : ∀ (xs : List LI) (i : Nat) (hi : i < xs.length) (a : Option Addr) (c : Nat) (l : List F), (cellsI xs).set (i * 4 + 3) (.slice a l.length c) = cellsI (xs.set i ⟨xs[i].k, a, c, l⟩)
  | x :: xs, 0, _, a, c, l => rfl
  | x :: xs, i + 1, h, a, c, l => by
    rw [List.set_cons_succ, cellsI_cons, cellsI_cons, List.getElem_cons_succ, ← cellsI_set3 xs i (by simpa using h) a c l, show (i + 1) * 4 + 3 = i * 4 + 3 + 1 + 1 + 1 + 1 by omega]
    rfl
theorem cellsI_set3m (xs : List LI) (i : Nat) (hi : i < xs.length) (a : Option Addr) (c : Nat) (l : List F) (M : Nat) (hM : M = l.length) : (cellsI xs).set (i * 4 + 3) (.slice a M c) = cellsI (xs.set i ⟨xs[i].k, a, c, l⟩) := by
  subst hM
  exact cellsI_set3 xs i hi a c l
theorem bag_swap {W w : World} {rs : List Res} {xs : List RowS} {z : RowS} (h : Sep W w rs) (j : Nat) (hj : rs[j]? = some (bag (xs ++ [z]))) (i : Nat) (hi : i < xs.length) : Sep W w (rs.set j (bag (xs.set i z))) := by
  have e1 : xs.set i z = xs.take i ++ z :: xs.drop (i + 1) := List.set_eq_take_append_cons_drop ▸ by rw [if_pos hi]
  have e2 : xs.eraseIdx i = xs.take i ++ xs.drop (i + 1) := List.eraseIdx_eq_take_drop_succ ..
  have hp : (xs.eraseIdx i ++ [z]).Perm (xs.set i z) := by
    rw [e1, e2, List.append_assoc]
    refine List.Perm.append_left _ ?_
    exact List.perm_append_comm
  have hs : (xs.eraseIdx i ++ [z]).Sublist (xs ++ [z]) := (List.eraseIdx_sublist xs i).append (List.Sublist.refl _)
  refine turn h j hj (fun ho => (BagOwn.sub ho hs).perm hp) (fun b hb => ?_)
  obtain ⟨r, hr, hm⟩ := List.mem_flatMap.1 hb
  exact List.mem_flatMap.2 ⟨r, hs.subset (hp.mem_iff.2 hr), hm⟩
theorem rowsI_ins (ys : List LI) (k : Nat) (z : LI) : (rowsI ys ++ [z.row]).Perm (rowsI (ys.take k ++ z :: ys.drop k)) := by
  have e : rowsI ys = rowsI (ys.take k) ++ rowsI (ys.drop k) := by rw [← rowsI_append, List.take_append_drop]
  rw [e, rowsI_append, List.append_assoc]
  exact List.Perm.append_left _ List.perm_append_comm
theorem cellsI_take : ∀ (ys : List LI) (k : Nat), (cellsI ys).take (k * 4) = cellsI (ys.take k)
  | [], k => by simp [cellsI]
  | y :: ys, 0 => by simp [cellsI]
  | y :: ys, k + 1 => by
    rw [List.take_succ_cons, cellsI_cons, cellsI_cons, ← cellsI_take ys k, show (k + 1) * 4 = k * 4 + 1 + 1 + 1 + 1 by omega]
    rfl
theorem cellsI_drop : ∀ (ys : List LI) (k : Nat), (cellsI ys).drop (k * 4) = cellsI (ys.drop k)
  | [], k => by simp [cellsI]
  | y :: ys, 0 => by simp
  | y :: ys, k + 1 => by
    rw [List.drop_succ_cons, cellsI_cons, ← cellsI_drop ys k, show (k + 1) * 4 = k * 4 + 1 + 1 + 1 + 1 by omega]
    rfl
theorem reads_head {w : World} {B : Nat} {a : Option Addr} {ys : List LI} (h : Reads w B a (cellsI ys)) (k : Nat) : Reads w B a (cellsI (ys.take k)) := fun j hj => by
  have hk : cellsI (ys.take k) = (cellsI ys).take (k * 4) := (cellsI_take ys k).symm
  have h2 : (cellsI (ys.take k))[j] = ((cellsI ys).take (k * 4))[j]'(by rw [← hk]; exact hj) := by simp only [hk]
  have h3 : j < (cellsI ys).length := by rw [hk, List.length_take] at hj; omega
  obtain ⟨ad, e, hb, hc⟩ := h j h3
  exact ⟨ad, e, hb, by rw [hc, h2, List.getElem_take]⟩
theorem reads_tail {w : World} {B : Nat} {ad : Addr} {ys : List LI} (h : Reads w B (some ad) (cellsI ys)) (k : Nat) : Reads w B (some (ad.add (k * 4))) (cellsI (ys.drop k)) := fun j hj => by
  have hk : cellsI (ys.drop k) = (cellsI ys).drop (k * 4) := (cellsI_drop ys k).symm
  have h2 : (cellsI (ys.drop k))[j] = ((cellsI ys).drop (k * 4))[j]'(by rw [← hk]; exact hj) := by simp only [hk]
  have h3 : k * 4 + j < (cellsI ys).length := by rw [hk, List.length_drop] at hj; omega
  obtain ⟨ad', e, hb, hc⟩ := h (k * 4 + j) h3
  injection e with e
  subst e
  exact ⟨ad.add (k * 4), rfl, by rw [add_block]; exact hb, by rw [add_add, hc, h2, List.getElem_drop]⟩
theorem reads_rest2 {w : World} {B g : Nat} {ys : List LI} (h : Reads w B (some ⟨g, 0, none⟩) (cellsI ys)) (k : Nat) : Reads w B (some ⟨g, k * 4, none⟩) (cellsI (ys.drop k)) := by
  have := reads_tail h k
  rwa [Addr.add_lit, Nat.zero_add] at this
theorem rowsI_set (xs : List LI) (i : Nat) (z : LI) : rowsI (xs.set i z) = (rowsI xs).set i z.row := List.map_set
theorem conI_ins (ys : List LI) (k : Nat) (z : LI) : conI (ys.take k ++ z :: ys.drop k) = (conI ys).take k ++ z.con :: (conI ys).drop k := by
  unfold conI
  rw [List.map_append, List.map_cons, List.map_take, List.map_drop]
theorem conI_set (xs : List LI) (i : Nat) (z : LI) : conI (xs.set i z) = (conI xs).set i z.con := List.map_set

set_option maxHeartbeats 16000000 in
theorem specPutItem_any (y : LS) (k0 : K) (ra : Option Addr) (rc : Nat) (rl : List F) (hf : FitS y.con) (hkt : k0.text.size ≤ 1099511627776) (hrl : rl.length ≤ 1048576) (hrs : Small rl) (w : World) (hr : RowsRd w w.heap.size y.rows) (hrr : Reads w w.heap.size ra (cellsF rl)) :
    Calls Try.prog 18 #[y.v, k0.v, .agg #[.slice ra rl.length rc]] w (GaveSB w (putI y.con k0 rl).1 (putI y.con k0 rl).2) := by
  obtain ⟨i0, hi1, hi2, hi3, hi4⟩ := itemInfo
  have HI := Lib.hid (And.intro hi1 (And.intro hi2 (And.intro hi3 hi4)))
  clear hi1 hi2 hi3 hi4
  obtain ⟨pk, pn, pt⟩ := k0
  unfold L4.K.v
  try dsimp only at hkt ⊢
  have HIS := Lib.hid (fun w' (h : Below w.heap.size w w') => specIsStore_any y hf w' ((hr.below h).more h.size))
  have HCP := Lib.hid (fun w' (h : Below w.heap.size w w') => l6Copy_any y hf w' ((hr.below h).more h.size))
  have HFD := Lib.hid (fun w' (h : Below w.heap.size w w') => specFindItem_any y ⟨pk, pn, pt⟩ hf w' ((hr.below h).more h.size))
  have HRC := Lib.hid (fun w' (h : Below w.heap.size w w') => L5.l5Copy_any ra rc rl (by omega) w' ((hrr.below h).more h.size))
  have HIR := Lib.hid (fun w' (h : Below w.heap.size w w') => L5.specIsRecord_any ra rc rl (by omega) hrs w' ((hrr.below h).more h.size))
  have HIK := Lib.hid (fun w' => L4.specIsKey_any ⟨pk, pn, pt⟩ (by show pt.size ≤ _; omega) w')
  obtain ⟨name, a, c, xs, auto⟩ := y
  have HR := Lib.hid (fun w' (h : Below w.heap.size w w') => LS.outer (hr.below h))
  have HX := Lib.hid (fun w' (h : Below w.heap.size w w') => (LS.inner (hr.below h)).more h.size)
  have HF := Lib.hid hf.items
  have HNM := Lib.hid hf.name
  have hl := hf.len
  simp only [LS.con, conI_length] at hl
  dsimp only [LS.con] at HR HX HF HNM
  try unfold LS.v LS.cells LS.con
  try dsimp only
  obtain ⟨N, hN⟩ : ∃ n, n = xs.length := ⟨_, rfl⟩
  rw [← hN] at hl ⊢
  have hl' : (N : Int) ≤ 1048576 := by omega
  have HN := Lib.hid hN
  clear hN hr hf
  dsimp only [LS.v, LS.cells, LS.con] at HIS HCP HFD
  rw [← HN.out] at HIS HCP HFD
  obtain ⟨M, hM⟩ : ∃ M, M = rl.length := ⟨_, rfl⟩
  rw [← hM] at HRC HIR ⊢
  have HM := Lib.hid hM
  clear hM hrr
  obtain ⟨bs, hbs⟩ : ∃ b, isS ⟨name, conI xs, auto⟩ = b := ⟨_, rfl⟩
  obtain ⟨bk, hbk⟩ : ∃ b, isK ⟨pk, pn, pt⟩ = b := ⟨_, rfl⟩
  obtain ⟨br, hbr⟩ : ∃ b, isR rl = b := ⟨_, rfl⟩
  rw [hbs] at HIS
  rw [hbk] at HIK
  rw [hbr] at HIR
  obtain ⟨res, hres⟩ : ∃ r, putI ⟨name, conI xs, auto⟩ ⟨pk, pn, pt⟩ rl = r := ⟨_, rfl⟩
  rw [hres]
  have HBS := Lib.hid hbs
  have HP := Lib.hid (show res = if bs && (bk && br) then (match fndO (conI xs) ⟨pk, pn, pt⟩ with | some i => (⟨name, (conI xs).set i ⟨⟨pk, pn, pt⟩, rl⟩, auto⟩, true) | none => if 16 ≤ (conI xs).length then (⟨name, conI xs, auto⟩, false) else (⟨name, (conI xs).take (posI (conI xs) ⟨pk, pn, pt⟩) ++ ⟨⟨pk, pn, pt⟩, rl⟩ :: (conI xs).drop (posI (conI xs) ⟨pk, pn, pt⟩), nextAuto auto ⟨pk, pn, pt⟩⟩, true)) else (⟨name, conI xs, auto⟩, false) from by rw [← hres]; unfold putI; rw [hbs, hbk, hbr]; rfl)
  clear hres hbs hbk hbr
  have S1 := Lib.hid (show Sl.Sep w ((((w.alloc (.cells #[.string name, .slice a N c, .int .i64 auto] 26)).alloc (.cells #[.int .i64 pk, .int .i64 pn, .string pt] 28)).alloc (.cells #[.slice ra M rc] 31)).alloc (.cells #[.string ⟨#[]⟩, .slice none 0 0, .int .i64 0] 26)) [L4.boxR w.heap.size 26 #[.string name, .slice a N c, .int .i64 auto], L4.boxR (w.heap.size + 1) 28 #[.int .i64 pk, .int .i64 pn, .string pt], L4.boxR (w.heap.size + 1 + 1) 31 #[.slice ra M rc], L4.boxR (w.heap.size + 1 + 1 + 1) 26 #[.string ⟨#[]⟩, .slice none 0 0, .int .i64 0]] from L4.push_box (L4.push_box (L4.push_box (L4.push_box (Sl.Sep.start w) 26 #[.string name, .slice a N c, .int .i64 auto] (w.heap.size) (by simp)) 28 #[.int .i64 pk, .int .i64 pn, .string pt] (w.heap.size + 1) (by simp)) 31 #[.slice ra M rc] (w.heap.size + 1 + 1) (by simp)) 26 #[.string ⟨#[]⟩, .slice none 0 0, .int .i64 0] (w.heap.size + 1 + 1 + 1) (by simp))
  obtain ⟨wa, hwa⟩ : ∃ u, u = ((((w.alloc (.cells #[.string name, .slice a N c, .int .i64 auto] 26)).alloc (.cells #[.int .i64 pk, .int .i64 pn, .string pt] 28)).alloc (.cells #[.slice ra M rc] 31)).alloc (.cells #[.string ⟨#[]⟩, .slice none 0 0, .int .i64 0] 26)) := ⟨_, rfl⟩
  rw [← hwa] at S1
  go_enter Try.func18, Try.ntmps18
  go_upto_region 1 with fail
  rw [← hwa]
  clear hwa
  have f0 : World.cell? _ ⟨w.heap.size, 0, none⟩ = some (.string name) := Bag.cell_at S1.out 0 rfl 0 rfl
  have f1 : World.cell? _ ⟨w.heap.size, 1, none⟩ = some (.slice a N c) := Bag.cell_at S1.out 0 rfl 1 rfl
  have f2 : World.cell? _ ⟨w.heap.size, 2, none⟩ = some (.int .i64 auto) := Bag.cell_at S1.out 0 rfl 2 rfl
  have f3 : World.cell? _ ⟨w.heap.size + 1, 0, none⟩ = some (.int .i64 pk) := Bag.cell_at S1.out 1 rfl 0 rfl
  have f4 : World.cell? _ ⟨w.heap.size + 1, 1, none⟩ = some (.int .i64 pn) := Bag.cell_at S1.out 1 rfl 1 rfl
  have f5 : World.cell? _ ⟨w.heap.size + 1, 2, none⟩ = some (.string pt) := Bag.cell_at S1.out 1 rfl 2 rfl
  have f6 : World.cell? _ ⟨w.heap.size + 1 + 1, 0, none⟩ = some (.slice ra M rc) := Bag.cell_at S1.out 2 rfl 0 rfl
  have f7 : World.cell? _ ⟨w.heap.size + 1 + 1 + 1, 0, none⟩ = some (.string ⟨#[]⟩) := Bag.cell_at S1.out 3 rfl 0 rfl
  have f8 : World.cell? _ ⟨w.heap.size + 1 + 1 + 1, 1, none⟩ = some (.slice none 0 0) := Bag.cell_at S1.out 3 rfl 1 rfl
  have f9 : World.cell? _ ⟨w.heap.size + 1 + 1 + 1, 2, none⟩ = some (.int .i64 0) := Bag.cell_at S1.out 3 rfl 2 rfl
  go_wp2_with fail
  go_at_call 28
  refine (HIS.out _ S1.out.old).mono ?_
  rintro e w1 ⟨rfl, hb⟩
  clear f0 f1 f2 f3 f4 f5 f6 f7 f8 f9
  have S2 := Lib.hid (show Sl.Sep w _ [L4.boxR w.heap.size 26 #[.string name, .slice a N c, .int .i64 auto], L4.boxR (w.heap.size + 1) 28 #[.int .i64 pk, .int .i64 pn, .string pt], L4.boxR (w.heap.size + 1 + 1) 31 #[.slice ra M rc], L4.boxR (w.heap.size + 1 + 1 + 1) 26 #[.string ⟨#[]⟩, .slice none 0 0, .int .i64 0]] from S1.out.keep hb)
  clear S1
  clear hb
  have f0 : World.cell? _ ⟨w.heap.size, 0, none⟩ = some (.string name) := Bag.cell_at S2.out 0 rfl 0 rfl
  have f1 : World.cell? _ ⟨w.heap.size, 1, none⟩ = some (.slice a N c) := Bag.cell_at S2.out 0 rfl 1 rfl
  have f2 : World.cell? _ ⟨w.heap.size, 2, none⟩ = some (.int .i64 auto) := Bag.cell_at S2.out 0 rfl 2 rfl
  have f3 : World.cell? _ ⟨w.heap.size + 1, 0, none⟩ = some (.int .i64 pk) := Bag.cell_at S2.out 1 rfl 0 rfl
  have f4 : World.cell? _ ⟨w.heap.size + 1, 1, none⟩ = some (.int .i64 pn) := Bag.cell_at S2.out 1 rfl 1 rfl
  have f5 : World.cell? _ ⟨w.heap.size + 1, 2, none⟩ = some (.string pt) := Bag.cell_at S2.out 1 rfl 2 rfl
  have f6 : World.cell? _ ⟨w.heap.size + 1 + 1, 0, none⟩ = some (.slice ra M rc) := Bag.cell_at S2.out 2 rfl 0 rfl
  have f7 : World.cell? _ ⟨w.heap.size + 1 + 1 + 1, 0, none⟩ = some (.string ⟨#[]⟩) := Bag.cell_at S2.out 3 rfl 0 rfl
  have f8 : World.cell? _ ⟨w.heap.size + 1 + 1 + 1, 1, none⟩ = some (.slice none 0 0) := Bag.cell_at S2.out 3 rfl 1 rfl
  have f9 : World.cell? _ ⟨w.heap.size + 1 + 1 + 1, 2, none⟩ = some (.int .i64 0) := Bag.cell_at S2.out 3 rfl 2 rfl
  cases bs with
  | false =>
    go_wp2_with fail
    go_at_call 66
    refine (HCP.out _ S2.out.old).mono ?_
    rintro e w2 ⟨⟨nm3, a3, c3, ys, au3⟩, rfl, hcon, ho, hb⟩
    clear f0 f1 f2 f3 f4 f5 f6 f7 f8 f9
    have S3 := Lib.hid (show Sl.Sep w _ [L4.boxR w.heap.size 26 #[.string name, .slice a N c, .int .i64 auto], L4.boxR (w.heap.size + 1) 28 #[.int .i64 pk, .int .i64 pn, .string pt], L4.boxR (w.heap.size + 1 + 1) 31 #[.slice ra M rc], L4.boxR (w.heap.size + 1 + 1 + 1) 26 #[.string ⟨#[]⟩, .slice none 0 0, .int .i64 0], Bag.bag ((LS.mk nm3 a3 c3 ys au3).rows)] from Bag.push_bag S2.out hb ho)
    clear S2
    clear hb ho
    have HCON := Lib.hid hcon
    clear hcon
    simp only [LS.v, LS.cells]
    have f0 : World.cell? _ ⟨w.heap.size + 1 + 1 + 1, 0, none⟩ = some (.string ⟨#[]⟩) := Bag.cell_at S3.out 3 rfl 0 rfl
    have f1 : World.cell? _ ⟨w.heap.size + 1 + 1 + 1, 1, none⟩ = some (.slice none 0 0) := Bag.cell_at S3.out 3 rfl 1 rfl
    have f2 : World.cell? _ ⟨w.heap.size + 1 + 1 + 1, 2, none⟩ = some (.int .i64 0) := Bag.cell_at S3.out 3 rfl 2 rfl
    have z0 := Bag.free_at S3.out 3 rfl 0
    have z1 := Bag.free_at S3.out 3 rfl 1
    have z2 := Bag.free_at S3.out 3 rfl 2
    go_wp2_with fail
    clear f0 f1 f2 z0 z1 z2
    have S4 := Lib.hid (show Sl.Sep w _ [L4.boxR w.heap.size 26 #[.string name, .slice a N c, .int .i64 auto], L4.boxR (w.heap.size + 1) 28 #[.int .i64 pk, .int .i64 pn, .string pt], L4.boxR (w.heap.size + 1 + 1) 31 #[.slice ra M rc], L4.boxR (w.heap.size + 1 + 1 + 1) 26 #[.string nm3, .slice a3 ys.length c3, .int .i64 au3], Bag.bag ((LS.mk nm3 a3 c3 ys au3).rows)] from L5.put_box5 (L5.put_box5 (L5.put_box5 (S3.out) 3 rfl 0 (.string nm3)) 3 rfl 1 (.slice a3 ys.length c3)) 3 rfl 2 (.int .i64 au3))
    clear S3
    have f0 : World.cell? _ ⟨w.heap.size + 1 + 1 + 1, 0, none⟩ = some (.string nm3) := Bag.cell_at S4.out 3 rfl 0 rfl
    have f1 : World.cell? _ ⟨w.heap.size + 1 + 1 + 1, 1, none⟩ = some (.slice a3 ys.length c3) := Bag.cell_at S4.out 3 rfl 1 rfl
    have f2 : World.cell? _ ⟨w.heap.size + 1 + 1 + 1, 2, none⟩ = some (.int .i64 au3) := Bag.cell_at S4.out 3 rfl 2 rfl
    refine bodyPost_ret (v := .tuple #[.agg #[.string nm3, .slice a3 ys.length c3, .int .i64 au3], .bool false]) (by simp [results, Try.results18, go_sem, *]) rfl ?_
    have HE := Lib.hid (show res = (⟨name, conI xs, auto⟩, false) from by rw [HP.out]; rfl)
    exact ⟨⟨nm3, a3, c3, ys, au3⟩, by rw [HE.out]; rfl, by rw [HE.out]; exact HCON.out, Bag.bag_from S4.out 4 rfl, S4.out.old⟩
  | true =>
    go_wp2_with fail
    go_at_call 64
    refine (HIK.out _).mono ?_
    rintro e w2 ⟨rfl, hb⟩
    clear f0 f1 f2 f3 f4 f5 f6 f7 f8 f9
    have S3 := Lib.hid (show Sl.Sep w _ [L4.boxR w.heap.size 26 #[.string name, .slice a N c, .int .i64 auto], L4.boxR (w.heap.size + 1) 28 #[.int .i64 pk, .int .i64 pn, .string pt], L4.boxR (w.heap.size + 1 + 1) 31 #[.slice ra M rc], L4.boxR (w.heap.size + 1 + 1 + 1) 26 #[.string ⟨#[]⟩, .slice none 0 0, .int .i64 0]] from S2.out.keep hb)
    clear S2
    clear hb
    have f0 : World.cell? _ ⟨w.heap.size, 0, none⟩ = some (.string name) := Bag.cell_at S3.out 0 rfl 0 rfl
    have f1 : World.cell? _ ⟨w.heap.size, 1, none⟩ = some (.slice a N c) := Bag.cell_at S3.out 0 rfl 1 rfl
    have f2 : World.cell? _ ⟨w.heap.size, 2, none⟩ = some (.int .i64 auto) := Bag.cell_at S3.out 0 rfl 2 rfl
    have f3 : World.cell? _ ⟨w.heap.size + 1, 0, none⟩ = some (.int .i64 pk) := Bag.cell_at S3.out 1 rfl 0 rfl
    have f4 : World.cell? _ ⟨w.heap.size + 1, 1, none⟩ = some (.int .i64 pn) := Bag.cell_at S3.out 1 rfl 1 rfl
    have f5 : World.cell? _ ⟨w.heap.size + 1, 2, none⟩ = some (.string pt) := Bag.cell_at S3.out 1 rfl 2 rfl
    have f6 : World.cell? _ ⟨w.heap.size + 1 + 1, 0, none⟩ = some (.slice ra M rc) := Bag.cell_at S3.out 2 rfl 0 rfl
    have f7 : World.cell? _ ⟨w.heap.size + 1 + 1 + 1, 0, none⟩ = some (.string ⟨#[]⟩) := Bag.cell_at S3.out 3 rfl 0 rfl
    have f8 : World.cell? _ ⟨w.heap.size + 1 + 1 + 1, 1, none⟩ = some (.slice none 0 0) := Bag.cell_at S3.out 3 rfl 1 rfl
    have f9 : World.cell? _ ⟨w.heap.size + 1 + 1 + 1, 2, none⟩ = some (.int .i64 0) := Bag.cell_at S3.out 3 rfl 2 rfl
    cases bk with
    | false =>
      go_wp2_with fail
      go_at_call 66
      refine (HCP.out _ S3.out.old).mono ?_
      rintro e w3 ⟨⟨nm3, a3, c3, ys, au3⟩, rfl, hcon, ho, hb⟩
      clear f0 f1 f2 f3 f4 f5 f6 f7 f8 f9
      have S4 := Lib.hid (show Sl.Sep w _ [L4.boxR w.heap.size 26 #[.string name, .slice a N c, .int .i64 auto], L4.boxR (w.heap.size + 1) 28 #[.int .i64 pk, .int .i64 pn, .string pt], L4.boxR (w.heap.size + 1 + 1) 31 #[.slice ra M rc], L4.boxR (w.heap.size + 1 + 1 + 1) 26 #[.string ⟨#[]⟩, .slice none 0 0, .int .i64 0], Bag.bag ((LS.mk nm3 a3 c3 ys au3).rows)] from Bag.push_bag S3.out hb ho)
      clear S3
      clear hb ho
      have HCON := Lib.hid hcon
      clear hcon
      simp only [LS.v, LS.cells]
      have f0 : World.cell? _ ⟨w.heap.size + 1 + 1 + 1, 0, none⟩ = some (.string ⟨#[]⟩) := Bag.cell_at S4.out 3 rfl 0 rfl
      have f1 : World.cell? _ ⟨w.heap.size + 1 + 1 + 1, 1, none⟩ = some (.slice none 0 0) := Bag.cell_at S4.out 3 rfl 1 rfl
      have f2 : World.cell? _ ⟨w.heap.size + 1 + 1 + 1, 2, none⟩ = some (.int .i64 0) := Bag.cell_at S4.out 3 rfl 2 rfl
      have z0 := Bag.free_at S4.out 3 rfl 0
      have z1 := Bag.free_at S4.out 3 rfl 1
      have z2 := Bag.free_at S4.out 3 rfl 2
      go_wp2_with fail
      clear f0 f1 f2 z0 z1 z2
      have S5 := Lib.hid (show Sl.Sep w _ [L4.boxR w.heap.size 26 #[.string name, .slice a N c, .int .i64 auto], L4.boxR (w.heap.size + 1) 28 #[.int .i64 pk, .int .i64 pn, .string pt], L4.boxR (w.heap.size + 1 + 1) 31 #[.slice ra M rc], L4.boxR (w.heap.size + 1 + 1 + 1) 26 #[.string nm3, .slice a3 ys.length c3, .int .i64 au3], Bag.bag ((LS.mk nm3 a3 c3 ys au3).rows)] from L5.put_box5 (L5.put_box5 (L5.put_box5 (S4.out) 3 rfl 0 (.string nm3)) 3 rfl 1 (.slice a3 ys.length c3)) 3 rfl 2 (.int .i64 au3))
      clear S4
      have f0 : World.cell? _ ⟨w.heap.size + 1 + 1 + 1, 0, none⟩ = some (.string nm3) := Bag.cell_at S5.out 3 rfl 0 rfl
      have f1 : World.cell? _ ⟨w.heap.size + 1 + 1 + 1, 1, none⟩ = some (.slice a3 ys.length c3) := Bag.cell_at S5.out 3 rfl 1 rfl
      have f2 : World.cell? _ ⟨w.heap.size + 1 + 1 + 1, 2, none⟩ = some (.int .i64 au3) := Bag.cell_at S5.out 3 rfl 2 rfl
      refine bodyPost_ret (v := .tuple #[.agg #[.string nm3, .slice a3 ys.length c3, .int .i64 au3], .bool false]) (by simp [results, Try.results18, go_sem, *]) rfl ?_
      have HE := Lib.hid (show res = (⟨name, conI xs, auto⟩, false) from by rw [HP.out]; rfl)
      exact ⟨⟨nm3, a3, c3, ys, au3⟩, by rw [HE.out]; rfl, by rw [HE.out]; exact HCON.out, Bag.bag_from S5.out 4 rfl, S5.out.old⟩
    | true =>
      go_wp2_with fail
      go_at_call 65
      refine (HIR.out _ S3.out.old).mono ?_
      rintro e w3 ⟨rfl, hb⟩
      clear f0 f1 f2 f3 f4 f5 f6 f7 f8 f9
      have S4 := Lib.hid (show Sl.Sep w _ [L4.boxR w.heap.size 26 #[.string name, .slice a N c, .int .i64 auto], L4.boxR (w.heap.size + 1) 28 #[.int .i64 pk, .int .i64 pn, .string pt], L4.boxR (w.heap.size + 1 + 1) 31 #[.slice ra M rc], L4.boxR (w.heap.size + 1 + 1 + 1) 26 #[.string ⟨#[]⟩, .slice none 0 0, .int .i64 0]] from S3.out.keep hb)
      clear S3
      clear hb
      have f0 : World.cell? _ ⟨w.heap.size, 0, none⟩ = some (.string name) := Bag.cell_at S4.out 0 rfl 0 rfl
      have f1 : World.cell? _ ⟨w.heap.size, 1, none⟩ = some (.slice a N c) := Bag.cell_at S4.out 0 rfl 1 rfl
      have f2 : World.cell? _ ⟨w.heap.size, 2, none⟩ = some (.int .i64 auto) := Bag.cell_at S4.out 0 rfl 2 rfl
      have f3 : World.cell? _ ⟨w.heap.size + 1, 0, none⟩ = some (.int .i64 pk) := Bag.cell_at S4.out 1 rfl 0 rfl
      have f4 : World.cell? _ ⟨w.heap.size + 1, 1, none⟩ = some (.int .i64 pn) := Bag.cell_at S4.out 1 rfl 1 rfl
      have f5 : World.cell? _ ⟨w.heap.size + 1, 2, none⟩ = some (.string pt) := Bag.cell_at S4.out 1 rfl 2 rfl
      have f6 : World.cell? _ ⟨w.heap.size + 1 + 1, 0, none⟩ = some (.slice ra M rc) := Bag.cell_at S4.out 2 rfl 0 rfl
      have f7 : World.cell? _ ⟨w.heap.size + 1 + 1 + 1, 0, none⟩ = some (.string ⟨#[]⟩) := Bag.cell_at S4.out 3 rfl 0 rfl
      have f8 : World.cell? _ ⟨w.heap.size + 1 + 1 + 1, 1, none⟩ = some (.slice none 0 0) := Bag.cell_at S4.out 3 rfl 1 rfl
      have f9 : World.cell? _ ⟨w.heap.size + 1 + 1 + 1, 2, none⟩ = some (.int .i64 0) := Bag.cell_at S4.out 3 rfl 2 rfl
      cases br with
      | false =>
        go_wp2_with fail
        go_at_call 66
        refine (HCP.out _ S4.out.old).mono ?_
        rintro e w4 ⟨⟨nm3, a3, c3, ys, au3⟩, rfl, hcon, ho, hb⟩
        clear f0 f1 f2 f3 f4 f5 f6 f7 f8 f9
        have S5 := Lib.hid (show Sl.Sep w _ [L4.boxR w.heap.size 26 #[.string name, .slice a N c, .int .i64 auto], L4.boxR (w.heap.size + 1) 28 #[.int .i64 pk, .int .i64 pn, .string pt], L4.boxR (w.heap.size + 1 + 1) 31 #[.slice ra M rc], L4.boxR (w.heap.size + 1 + 1 + 1) 26 #[.string ⟨#[]⟩, .slice none 0 0, .int .i64 0], Bag.bag ((LS.mk nm3 a3 c3 ys au3).rows)] from Bag.push_bag S4.out hb ho)
        clear S4
        clear hb ho
        have HCON := Lib.hid hcon
        clear hcon
        simp only [LS.v, LS.cells]
        have f0 : World.cell? _ ⟨w.heap.size + 1 + 1 + 1, 0, none⟩ = some (.string ⟨#[]⟩) := Bag.cell_at S5.out 3 rfl 0 rfl
        have f1 : World.cell? _ ⟨w.heap.size + 1 + 1 + 1, 1, none⟩ = some (.slice none 0 0) := Bag.cell_at S5.out 3 rfl 1 rfl
        have f2 : World.cell? _ ⟨w.heap.size + 1 + 1 + 1, 2, none⟩ = some (.int .i64 0) := Bag.cell_at S5.out 3 rfl 2 rfl
        have z0 := Bag.free_at S5.out 3 rfl 0
        have z1 := Bag.free_at S5.out 3 rfl 1
        have z2 := Bag.free_at S5.out 3 rfl 2
        go_wp2_with fail
        clear f0 f1 f2 z0 z1 z2
        have S6 := Lib.hid (show Sl.Sep w _ [L4.boxR w.heap.size 26 #[.string name, .slice a N c, .int .i64 auto], L4.boxR (w.heap.size + 1) 28 #[.int .i64 pk, .int .i64 pn, .string pt], L4.boxR (w.heap.size + 1 + 1) 31 #[.slice ra M rc], L4.boxR (w.heap.size + 1 + 1 + 1) 26 #[.string nm3, .slice a3 ys.length c3, .int .i64 au3], Bag.bag ((LS.mk nm3 a3 c3 ys au3).rows)] from L5.put_box5 (L5.put_box5 (L5.put_box5 (S5.out) 3 rfl 0 (.string nm3)) 3 rfl 1 (.slice a3 ys.length c3)) 3 rfl 2 (.int .i64 au3))
        clear S5
        have f0 : World.cell? _ ⟨w.heap.size + 1 + 1 + 1, 0, none⟩ = some (.string nm3) := Bag.cell_at S6.out 3 rfl 0 rfl
        have f1 : World.cell? _ ⟨w.heap.size + 1 + 1 + 1, 1, none⟩ = some (.slice a3 ys.length c3) := Bag.cell_at S6.out 3 rfl 1 rfl
        have f2 : World.cell? _ ⟨w.heap.size + 1 + 1 + 1, 2, none⟩ = some (.int .i64 au3) := Bag.cell_at S6.out 3 rfl 2 rfl
        refine bodyPost_ret (v := .tuple #[.agg #[.string nm3, .slice a3 ys.length c3, .int .i64 au3], .bool false]) (by simp [results, Try.results18, go_sem, *]) rfl ?_
        have HE := Lib.hid (show res = (⟨name, conI xs, auto⟩, false) from by rw [HP.out]; rfl)
        exact ⟨⟨nm3, a3, c3, ys, au3⟩, by rw [HE.out]; rfl, by rw [HE.out]; exact HCON.out, Bag.bag_from S6.out 4 rfl, S6.out.old⟩
      | true =>
        replace HP := Lib.hid (show res = _ from HP.out)
        simp only [Bool.and_self, if_true] at HP
        go_wp2_with fail
        go_at_call 66
        refine (HCP.out _ S4.out.old).mono ?_
        rintro e w4 ⟨⟨nm3, a3, c3, ys, au3⟩, rfl, hcon, ho, hb⟩
        clear f0 f1 f2 f3 f4 f5 f6 f7 f8 f9
        have S5 := Lib.hid (show Sl.Sep w _ [L4.boxR w.heap.size 26 #[.string name, .slice a N c, .int .i64 auto], L4.boxR (w.heap.size + 1) 28 #[.int .i64 pk, .int .i64 pn, .string pt], L4.boxR (w.heap.size + 1 + 1) 31 #[.slice ra M rc], L4.boxR (w.heap.size + 1 + 1 + 1) 26 #[.string ⟨#[]⟩, .slice none 0 0, .int .i64 0], Bag.bag ((LS.mk nm3 a3 c3 ys au3).rows)] from Bag.push_bag S4.out hb ho)
        clear S4
        clear hb ho
        have HCON := Lib.hid hcon
        clear hcon
        simp only [LS.v, LS.cells]
        obtain ⟨e1, e2, e3⟩ : nm3 = name ∧ conI ys = conI xs ∧ au3 = auto := by have h := HCON.out; unfold LS.con at h; simp only [S6.mk.injEq] at h; exact h
        subst e1
        subst e3
        have HCE := Lib.hid e2
        have hyl : ys.length = N := by have h := congrArg List.length e2; simp only [conI_length] at h; rw [h]; exact HN.out.symm
        clear e2 HCON
        have f0 : World.cell? _ ⟨w.heap.size, 0, none⟩ = some (.string nm3) := Bag.cell_at S5.out 0 rfl 0 rfl
        have f1 : World.cell? _ ⟨w.heap.size, 1, none⟩ = some (.slice a N c) := Bag.cell_at S5.out 0 rfl 1 rfl
        have f2 : World.cell? _ ⟨w.heap.size, 2, none⟩ = some (.int .i64 au3) := Bag.cell_at S5.out 0 rfl 2 rfl
        have f3 : World.cell? _ ⟨w.heap.size + 1, 0, none⟩ = some (.int .i64 pk) := Bag.cell_at S5.out 1 rfl 0 rfl
        have f4 : World.cell? _ ⟨w.heap.size + 1, 1, none⟩ = some (.int .i64 pn) := Bag.cell_at S5.out 1 rfl 1 rfl
        have f5 : World.cell? _ ⟨w.heap.size + 1, 2, none⟩ = some (.string pt) := Bag.cell_at S5.out 1 rfl 2 rfl
        have f6 : World.cell? _ ⟨w.heap.size + 1 + 1, 0, none⟩ = some (.slice ra M rc) := Bag.cell_at S5.out 2 rfl 0 rfl
        have f7 : World.cell? _ ⟨w.heap.size + 1 + 1 + 1, 0, none⟩ = some (.string ⟨#[]⟩) := Bag.cell_at S5.out 3 rfl 0 rfl
        have f8 : World.cell? _ ⟨w.heap.size + 1 + 1 + 1, 1, none⟩ = some (.slice none 0 0) := Bag.cell_at S5.out 3 rfl 1 rfl
        have f9 : World.cell? _ ⟨w.heap.size + 1 + 1 + 1, 2, none⟩ = some (.int .i64 0) := Bag.cell_at S5.out 3 rfl 2 rfl
        rw [hyl]
        go_upto_region 4 with fail
        clear f0 f1 f2 f3 f4 f5 f6 f7 f8 f9
        have S6 := Lib.hid (show Sl.Sep w _ [L4.boxR w.heap.size 26 #[.string nm3, .slice a N c, .int .i64 au3], L4.boxR (w.heap.size + 1) 28 #[.int .i64 pk, .int .i64 pn, .string pt], L4.boxR (w.heap.size + 1 + 1) 31 #[.slice ra M rc], L4.boxR (w.heap.size + 1 + 1 + 1) 26 #[.string ⟨#[]⟩, .slice none 0 0, .int .i64 0], Bag.bag ((LS.mk nm3 a3 c3 ys au3).rows), L4.boxR w4.heap.size 26 #[.string nm3, .slice a3 N c3, .int .i64 au3]] from L4.push_box S5.out 26 #[.string nm3, .slice a3 N c3, .int .i64 au3] w4.heap.size rfl)
        clear S5
        obtain ⟨g1, hg⟩ : ∃ g', g' = w4.heap.size := ⟨_, rfl⟩
        rw [← hg] at S6 ⊢
        clear hg
        generalize w4.alloc (.cells #[.string nm3, .slice a3 N c3, .int .i64 au3] 26) = w5 at S6 ⊢
        have f0 : World.cell? _ ⟨w.heap.size, 0, none⟩ = some (.string nm3) := Bag.cell_at S6.out 0 rfl 0 rfl
        have f1 : World.cell? _ ⟨w.heap.size, 1, none⟩ = some (.slice a N c) := Bag.cell_at S6.out 0 rfl 1 rfl
        have f2 : World.cell? _ ⟨w.heap.size, 2, none⟩ = some (.int .i64 au3) := Bag.cell_at S6.out 0 rfl 2 rfl
        have f3 : World.cell? _ ⟨w.heap.size + 1, 0, none⟩ = some (.int .i64 pk) := Bag.cell_at S6.out 1 rfl 0 rfl
        have f4 : World.cell? _ ⟨w.heap.size + 1, 1, none⟩ = some (.int .i64 pn) := Bag.cell_at S6.out 1 rfl 1 rfl
        have f5 : World.cell? _ ⟨w.heap.size + 1, 2, none⟩ = some (.string pt) := Bag.cell_at S6.out 1 rfl 2 rfl
        have f6 : World.cell? _ ⟨w.heap.size + 1 + 1, 0, none⟩ = some (.slice ra M rc) := Bag.cell_at S6.out 2 rfl 0 rfl
        have f7 : World.cell? _ ⟨w.heap.size + 1 + 1 + 1, 0, none⟩ = some (.string ⟨#[]⟩) := Bag.cell_at S6.out 3 rfl 0 rfl
        have f8 : World.cell? _ ⟨w.heap.size + 1 + 1 + 1, 1, none⟩ = some (.slice none 0 0) := Bag.cell_at S6.out 3 rfl 1 rfl
        have f9 : World.cell? _ ⟨w.heap.size + 1 + 1 + 1, 2, none⟩ = some (.int .i64 0) := Bag.cell_at S6.out 3 rfl 2 rfl
        have f10 : World.cell? _ ⟨g1, 0, none⟩ = some (.string nm3) := Bag.cell_at S6.out 5 rfl 0 rfl
        have f11 : World.cell? _ ⟨g1, 1, none⟩ = some (.slice a3 N c3) := Bag.cell_at S6.out 5 rfl 1 rfl
        have f12 : World.cell? _ ⟨g1, 2, none⟩ = some (.int .i64 au3) := Bag.cell_at S6.out 5 rfl 2 rfl
        obtain ⟨fi, hfi⟩ : ∃ i, fndI (conI xs) ⟨pk, pn, pt⟩ = i := ⟨_, rfl⟩
        rw [hfi] at HFD
        have HFI := Lib.hid hfi
        clear hfi
        go_wp2_with fail
        go_at_call 37
        refine (HFD.out _ S6.out.old).mono ?_
        rintro e w6 ⟨rfl, hb⟩
        clear f0 f1 f2 f3 f4 f5 f6 f7 f8 f9 f10 f11 f12
        have S7 := Lib.hid (show Sl.Sep w _ [L4.boxR w.heap.size 26 #[.string nm3, .slice a N c, .int .i64 au3], L4.boxR (w.heap.size + 1) 28 #[.int .i64 pk, .int .i64 pn, .string pt], L4.boxR (w.heap.size + 1 + 1) 31 #[.slice ra M rc], L4.boxR (w.heap.size + 1 + 1 + 1) 26 #[.string ⟨#[]⟩, .slice none 0 0, .int .i64 0], Bag.bag ((LS.mk nm3 a3 c3 ys au3).rows), L4.boxR g1 26 #[.string nm3, .slice a3 N c3, .int .i64 au3]] from S6.out.keep hb)
        clear S6
        clear hb
        have f0 : World.cell? _ ⟨w.heap.size, 0, none⟩ = some (.string nm3) := Bag.cell_at S7.out 0 rfl 0 rfl
        have f1 : World.cell? _ ⟨w.heap.size, 1, none⟩ = some (.slice a N c) := Bag.cell_at S7.out 0 rfl 1 rfl
        have f2 : World.cell? _ ⟨w.heap.size, 2, none⟩ = some (.int .i64 au3) := Bag.cell_at S7.out 0 rfl 2 rfl
        have f3 : World.cell? _ ⟨w.heap.size + 1, 0, none⟩ = some (.int .i64 pk) := Bag.cell_at S7.out 1 rfl 0 rfl
        have f4 : World.cell? _ ⟨w.heap.size + 1, 1, none⟩ = some (.int .i64 pn) := Bag.cell_at S7.out 1 rfl 1 rfl
        have f5 : World.cell? _ ⟨w.heap.size + 1, 2, none⟩ = some (.string pt) := Bag.cell_at S7.out 1 rfl 2 rfl
        have f6 : World.cell? _ ⟨w.heap.size + 1 + 1, 0, none⟩ = some (.slice ra M rc) := Bag.cell_at S7.out 2 rfl 0 rfl
        have f7 : World.cell? _ ⟨w.heap.size + 1 + 1 + 1, 0, none⟩ = some (.string ⟨#[]⟩) := Bag.cell_at S7.out 3 rfl 0 rfl
        have f8 : World.cell? _ ⟨w.heap.size + 1 + 1 + 1, 1, none⟩ = some (.slice none 0 0) := Bag.cell_at S7.out 3 rfl 1 rfl
        have f9 : World.cell? _ ⟨w.heap.size + 1 + 1 + 1, 2, none⟩ = some (.int .i64 0) := Bag.cell_at S7.out 3 rfl 2 rfl
        have f10 : World.cell? _ ⟨g1, 0, none⟩ = some (.string nm3) := Bag.cell_at S7.out 5 rfl 0 rfl
        have f11 : World.cell? _ ⟨g1, 1, none⟩ = some (.slice a3 N c3) := Bag.cell_at S7.out 5 rfl 1 rfl
        have f12 : World.cell? _ ⟨g1, 2, none⟩ = some (.int .i64 au3) := Bag.cell_at S7.out 5 rfl 2 rfl
        cases hfo : fndO (conI xs) ⟨pk, pn, pt⟩ with
        | some i =>
          have hfi2 : fi = (i : Int) := by have h := HFI.out; unfold fndI at h; rw [hfo] at h; exact h.symm
          obtain ⟨hi, hki⟩ := fndO_some hfo
          subst hfi2
          have hiN : i < N := by rw [conI_length] at hi; have := HN.out; omega
          have hiy : i < ys.length := by omega
          have HE := Lib.hid (show res = (⟨nm3, (conI xs).set i ⟨⟨pk, pn, pt⟩, rl⟩, au3⟩, true) from by rw [HP.out, hfo])
          have HKI := Lib.hid (show ys[i].k = ⟨pk, pn, pt⟩ from by have h1 := con_of (List.getElem?_eq_getElem hiy); rw [HCE.out, List.getElem?_eq_getElem hi] at h1; have h2 := Option.some.inj h1; rw [h2] at hki; exact hki)
          clear hfo hki hi
          have hii : ((i : Nat) : Int) < (N : Int) := by omega
          clear f0 f1 f2 f3 f4 f5 f6 f7 f8 f9 f10 f11 f12
          have S8 := Lib.hid (show Sl.Sep w _ [L4.boxR w.heap.size 26 #[.string nm3, .slice a N c, .int .i64 au3], L4.boxR (w.heap.size + 1) 28 #[.int .i64 pk, .int .i64 pn, .string pt], L4.boxR (w.heap.size + 1 + 1) 31 #[.slice ra M rc], L4.boxR (w.heap.size + 1 + 1 + 1) 26 #[.string ⟨#[]⟩, .slice none 0 0, .int .i64 0], Bag.bag ([rowI a3 c3 ys] ++ rowsI ys), L4.boxR g1 26 #[.string nm3, .slice a3 N c3, .int .i64 au3]] from S7.out)
          clear S7
          have S9 := Lib.hid (show Sl.Sep w _ [L4.boxR w.heap.size 26 #[.string nm3, .slice a N c, .int .i64 au3], L4.boxR (w.heap.size + 1) 28 #[.int .i64 pk, .int .i64 pn, .string pt], L4.boxR (w.heap.size + 1 + 1) 31 #[.slice ra M rc], L4.boxR (w.heap.size + 1 + 1 + 1) 26 #[.string ⟨#[]⟩, .slice none 0 0, .int .i64 0], Bag.bag ([rowI a3 c3 ys]), L4.boxR g1 26 #[.string nm3, .slice a3 N c3, .int .i64 au3], Bag.bag (rowsI ys)] from Bag.bag_split S8.out 4 rfl)
          clear S8
          have S10 := Lib.hid (show Sl.Sep w _ [L4.boxR w.heap.size 26 #[.string nm3, .slice a N c, .int .i64 au3], L4.boxR (w.heap.size + 1) 28 #[.int .i64 pk, .int .i64 pn, .string pt], L4.boxR (w.heap.size + 1 + 1) 31 #[.slice ra M rc], L4.boxR (w.heap.size + 1 + 1 + 1) 26 #[.string ⟨#[]⟩, .slice none 0 0, .int .i64 0], Sv.ownV 40 4 a3 c3 N (cellsI ys), L4.boxR g1 26 #[.string nm3, .slice a3 N c3, .int .i64 au3], Bag.bag (rowsI ys)] from (by have h := Bag.one_of_bag S9.out 4 (r := rowI a3 c3 ys) rfl; unfold RowS.res rowI at h; dsimp only at h; rw [hyl] at h; exact h))
          clear S9
          obtain ⟨g3, rfl⟩ : ∃ g, a3 = some ⟨g, 0, none⟩ := by
            rcases (Sv.own_at S10.out 4 rfl).form with ⟨_, h0, _⟩ | ⟨g, e, _⟩
            · omega
            · exact ⟨g, e⟩
          have f0 : World.cell? _ ⟨w.heap.size, 0, none⟩ = some (.string nm3) := Bag.cell_at S10.out 0 rfl 0 rfl
          have f1 : World.cell? _ ⟨w.heap.size, 1, none⟩ = some (.slice a N c) := Bag.cell_at S10.out 0 rfl 1 rfl
          have f2 : World.cell? _ ⟨w.heap.size, 2, none⟩ = some (.int .i64 au3) := Bag.cell_at S10.out 0 rfl 2 rfl
          have f3 : World.cell? _ ⟨w.heap.size + 1, 0, none⟩ = some (.int .i64 pk) := Bag.cell_at S10.out 1 rfl 0 rfl
          have f4 : World.cell? _ ⟨w.heap.size + 1, 1, none⟩ = some (.int .i64 pn) := Bag.cell_at S10.out 1 rfl 1 rfl
          have f5 : World.cell? _ ⟨w.heap.size + 1, 2, none⟩ = some (.string pt) := Bag.cell_at S10.out 1 rfl 2 rfl
          have f6 : World.cell? _ ⟨w.heap.size + 1 + 1, 0, none⟩ = some (.slice ra M rc) := Bag.cell_at S10.out 2 rfl 0 rfl
          have f7 : World.cell? _ ⟨w.heap.size + 1 + 1 + 1, 0, none⟩ = some (.string ⟨#[]⟩) := Bag.cell_at S10.out 3 rfl 0 rfl
          have f8 : World.cell? _ ⟨w.heap.size + 1 + 1 + 1, 1, none⟩ = some (.slice none 0 0) := Bag.cell_at S10.out 3 rfl 1 rfl
          have f9 : World.cell? _ ⟨w.heap.size + 1 + 1 + 1, 2, none⟩ = some (.int .i64 0) := Bag.cell_at S10.out 3 rfl 2 rfl
          have f10 : World.cell? _ ⟨g1, 0, none⟩ = some (.string nm3) := Bag.cell_at S10.out 5 rfl 0 rfl
          have f11 : World.cell? _ ⟨g1, 1, none⟩ = some (.slice (some ⟨g3, 0, none⟩) N c3) := Bag.cell_at S10.out 5 rfl 1 rfl
          have f12 : World.cell? _ ⟨g1, 2, none⟩ = some (.int .i64 au3) := Bag.cell_at S10.out 5 rfl 2 rfl
          go_upto_region 6 with fail
          clear f0 f1 f2 f3 f4 f5 f6 f7 f8 f9 f10 f11 f12
          refine wp_region_held_drew (S := (fun w' => World.cell? w' ⟨w.heap.size + 1 + 1, 0, none⟩ = some (.slice ra M rc) ∧ World.cell? w' ⟨g1, 0, none⟩ = some (.string nm3) ∧ World.cell? w' ⟨g1, 1, none⟩ = some (.slice (some ⟨g3, 0, none⟩) N c3) ∧ World.cell? w' ⟨g1, 2, none⟩ = some (.int .i64 au3))) (by kernel_rfl) ⟨Bag.cell_at S10.out 2 rfl 0 rfl, Bag.cell_at S10.out 5 rfl 0 rfl, Bag.cell_at S10.out 5 rfl 1 rfl, Bag.cell_at S10.out 5 rfl 2 rfl⟩ (fun hS => ?_)
          have S11 := Lib.hid (show Sl.Sep w _ [L4.boxR w.heap.size 26 #[.string nm3, .slice a N c, .int .i64 au3], L4.boxR (w.heap.size + 1) 28 #[.int .i64 pk, .int .i64 pn, .string pt], L4.boxR (w.heap.size + 1 + 1) 31 #[.slice ra M rc], L4.boxR (w.heap.size + 1 + 1 + 1) 26 #[.string ⟨#[]⟩, .slice none 0 0, .int .i64 0], Sv.ownV 40 4 (some ⟨g3, 0, none⟩) c3 N (cellsI ys), L4.boxR g1 26 #[.string nm3, .slice (some ⟨g3, 0, none⟩) N c3, .int .i64 au3], Bag.bag (rowsI ys)] from Bag.drew1 S10.out)
          clear S10
          generalize World.drew _ = w7 at hS S11 ⊢
          refine tk 0 rfl ?_
          try simp only [zp0, zp1, zp2, zp3, zp4]
          refine tk 1 rfl ?_
          try simp only [zp0, zp1, zp2, zp3, zp4]
          refine tk 2 rfl ?_
          try simp only [zp0, zp1, zp2, zp3, zp4]
          refine tk 3 rfl ?_
          try simp only [zp0, zp1, zp2, zp3, zp4]
          refine Reg.one_op (i := 4) rfl (by kernel_rfl) (fun K hK => ?_)
          go_simp
          go_at_call 67
          refine (HRC.out _ S11.out.old).mono ?_
          rintro e w8 ⟨a1, c1, rfl, ho, hb⟩
          have S12 := Lib.hid (show Sl.Sep w _ [L4.boxR w.heap.size 26 #[.string nm3, .slice a N c, .int .i64 au3], L4.boxR (w.heap.size + 1) 28 #[.int .i64 pk, .int .i64 pn, .string pt], L4.boxR (w.heap.size + 1 + 1) 31 #[.slice ra M rc], L4.boxR (w.heap.size + 1 + 1 + 1) 26 #[.string ⟨#[]⟩, .slice none 0 0, .int .i64 0], Sv.ownV 40 4 (some ⟨g3, 0, none⟩) c3 N (cellsI ys), L4.boxR g1 26 #[.string nm3, .slice (some ⟨g3, 0, none⟩) N c3, .int .i64 au3], Bag.bag (rowsI ys), Sv.ownV 102 2 a1 c1 M (cellsF rl)] from Sv.push_own S11.out hb ho)
          clear S11
          clear hb ho
          go_wp2_with fail
          refine hK.out _ _ ⟨Bag.cell_at S12.out 2 rfl 0 rfl, Bag.cell_at S12.out 5 rfl 0 rfl, Bag.cell_at S12.out 5 rfl 1 rfl, Bag.cell_at S12.out 5 rfl 2 rfl⟩ (fun hS => ?_)
          clear hK K
          try simp only [zp0, zp1, zp2, zp3, zp4]
          refine tk 5 rfl ?_
          try simp only [zp0, zp1, zp2, zp3, zp4]
          refine tk 6 rfl ?_
          try simp only [zp0, zp1, zp2, zp3, zp4]
          refine Reg.one_op (i := 7) rfl (by kernel_rfl) (fun K hK => ?_)
          have q0 := (Sv.own_at S12.out 4 rfl).cell (i * 4 + 3) (by rw [cellsI_length]; omega)
          have q1 := (Sv.own_at S12.out 4 rfl).free (i * 4 + 3)
          go_simp
          clear q0 q1
          have S13 := Lib.hid (show Sl.Sep w (w8.setCell ⟨g3, i * 4 + 3, none⟩ (.slice a1 M c1)) [L4.boxR w.heap.size 26 #[.string nm3, .slice a N c, .int .i64 au3], L4.boxR (w.heap.size + 1) 28 #[.int .i64 pk, .int .i64 pn, .string pt], L4.boxR (w.heap.size + 1 + 1) 31 #[.slice ra M rc], L4.boxR (w.heap.size + 1 + 1 + 1) 26 #[.string ⟨#[]⟩, .slice none 0 0, .int .i64 0], Sv.ownV 40 4 (some ⟨g3, 0, none⟩) c3 N (cellsI (ys.set i ⟨ys[i].k, a1, c1, rl⟩)), L4.boxR g1 26 #[.string nm3, .slice (some ⟨g3, 0, none⟩) N c3, .int .i64 au3], Bag.bag (rowsI ys), Sv.ownV 102 2 a1 c1 M (cellsF rl)] from (by have h := Sv.set_own S12.out 4 rfl (i * 4 + 3) (by rw [cellsI_length]; omega) (.slice a1 M c1); rw [cellsI_set3m ys i hiy a1 c1 rl M HM.out] at h; exact h))
          clear S12
          refine hK.out _ _ ⟨Bag.cell_at S13.out 2 rfl 0 rfl, Bag.cell_at S13.out 5 rfl 0 rfl, Bag.cell_at S13.out 5 rfl 1 rfl, Bag.cell_at S13.out 5 rfl 2 rfl⟩ (fun hS => ?_)
          clear hK K
          try simp only [zp0, zp1, zp2, zp3, zp4]
          refine wpAnyH_done (by kernel_rfl) ?_ _
          have f0 : World.cell? _ ⟨w.heap.size, 0, none⟩ = some (.string nm3) := Bag.cell_at S13.out 0 rfl 0 rfl
          have f1 : World.cell? _ ⟨w.heap.size, 1, none⟩ = some (.slice a N c) := Bag.cell_at S13.out 0 rfl 1 rfl
          have f2 : World.cell? _ ⟨w.heap.size, 2, none⟩ = some (.int .i64 au3) := Bag.cell_at S13.out 0 rfl 2 rfl
          have f3 : World.cell? _ ⟨w.heap.size + 1, 0, none⟩ = some (.int .i64 pk) := Bag.cell_at S13.out 1 rfl 0 rfl
          have f4 : World.cell? _ ⟨w.heap.size + 1, 1, none⟩ = some (.int .i64 pn) := Bag.cell_at S13.out 1 rfl 1 rfl
          have f5 : World.cell? _ ⟨w.heap.size + 1, 2, none⟩ = some (.string pt) := Bag.cell_at S13.out 1 rfl 2 rfl
          have f6 : World.cell? _ ⟨w.heap.size + 1 + 1, 0, none⟩ = some (.slice ra M rc) := Bag.cell_at S13.out 2 rfl 0 rfl
          have f7 : World.cell? _ ⟨w.heap.size + 1 + 1 + 1, 0, none⟩ = some (.string ⟨#[]⟩) := Bag.cell_at S13.out 3 rfl 0 rfl
          have f8 : World.cell? _ ⟨w.heap.size + 1 + 1 + 1, 1, none⟩ = some (.slice none 0 0) := Bag.cell_at S13.out 3 rfl 1 rfl
          have f9 : World.cell? _ ⟨w.heap.size + 1 + 1 + 1, 2, none⟩ = some (.int .i64 0) := Bag.cell_at S13.out 3 rfl 2 rfl
          have f10 : World.cell? _ ⟨g1, 0, none⟩ = some (.string nm3) := Bag.cell_at S13.out 5 rfl 0 rfl
          have f11 : World.cell? _ ⟨g1, 1, none⟩ = some (.slice (some ⟨g3, 0, none⟩) N c3) := Bag.cell_at S13.out 5 rfl 1 rfl
          have f12 : World.cell? _ ⟨g1, 2, none⟩ = some (.int .i64 au3) := Bag.cell_at S13.out 5 rfl 2 rfl
          clear f0 f1 f2 f3 f4 f5 f6 f7 f8 f9 f10 f11 f12
          have f0 : World.cell? _ ⟨w.heap.size + 1 + 1 + 1, 0, none⟩ = some (.string ⟨#[]⟩) := Bag.cell_at S13.out 3 rfl 0 rfl
          have f1 : World.cell? _ ⟨w.heap.size + 1 + 1 + 1, 1, none⟩ = some (.slice none 0 0) := Bag.cell_at S13.out 3 rfl 1 rfl
          have f2 : World.cell? _ ⟨w.heap.size + 1 + 1 + 1, 2, none⟩ = some (.int .i64 0) := Bag.cell_at S13.out 3 rfl 2 rfl
          have f3 : World.cell? _ ⟨g1, 0, none⟩ = some (.string nm3) := Bag.cell_at S13.out 5 rfl 0 rfl
          have f4 : World.cell? _ ⟨g1, 1, none⟩ = some (.slice (some ⟨g3, 0, none⟩) N c3) := Bag.cell_at S13.out 5 rfl 1 rfl
          have f5 : World.cell? _ ⟨g1, 2, none⟩ = some (.int .i64 au3) := Bag.cell_at S13.out 5 rfl 2 rfl
          have z0 := Bag.free_at S13.out 3 rfl 0
          have z1 := Bag.free_at S13.out 3 rfl 1
          have z2 := Bag.free_at S13.out 3 rfl 2
          go_wp2_with fail
          clear f0 f1 f2 f3 f4 f5 z0 z1 z2
          have S14 := Lib.hid (show Sl.Sep w _ [L4.boxR w.heap.size 26 #[.string nm3, .slice a N c, .int .i64 au3], L4.boxR (w.heap.size + 1) 28 #[.int .i64 pk, .int .i64 pn, .string pt], L4.boxR (w.heap.size + 1 + 1) 31 #[.slice ra M rc], L4.boxR (w.heap.size + 1 + 1 + 1) 26 #[.string nm3, .slice (some ⟨g3, 0, none⟩) N c3, .int .i64 au3], Sv.ownV 40 4 (some ⟨g3, 0, none⟩) c3 N (cellsI (ys.set i ⟨ys[i].k, a1, c1, rl⟩)), L4.boxR g1 26 #[.string nm3, .slice (some ⟨g3, 0, none⟩) N c3, .int .i64 au3], Bag.bag (rowsI ys), Sv.ownV 102 2 a1 c1 M (cellsF rl)] from L5.put_box5 (L5.put_box5 (L5.put_box5 (S13.out) 3 rfl 0 (.string nm3)) 3 rfl 1 (.slice (some ⟨g3, 0, none⟩) N c3)) 3 rfl 2 (.int .i64 au3))
          clear S13
          have f0 : World.cell? _ ⟨w.heap.size + 1 + 1 + 1, 0, none⟩ = some (.string nm3) := Bag.cell_at S14.out 3 rfl 0 rfl
          have f1 : World.cell? _ ⟨w.heap.size + 1 + 1 + 1, 1, none⟩ = some (.slice (some ⟨g3, 0, none⟩) N c3) := Bag.cell_at S14.out 3 rfl 1 rfl
          have f2 : World.cell? _ ⟨w.heap.size + 1 + 1 + 1, 2, none⟩ = some (.int .i64 au3) := Bag.cell_at S14.out 3 rfl 2 rfl
          refine bodyPost_ret (v := .tuple #[.agg #[.string nm3, .slice (some ⟨g3, 0, none⟩) N c3, .int .i64 au3], .bool true]) (by simp [results, Try.results18, go_sem, *]) rfl ?_
          clear f0 f1 f2
          have hM := HM.out
          subst hM
          have S90 := Lib.hid (Bag.bag_of_one S14.out 7 (r := (LI.mk ys[i].k a1 c1 rl).row) rfl)
          have S91 := Lib.hid (Bag.bag_join S90.out 6 7 (by decide) rfl rfl)
          have S92 := Lib.hid (bag_swap S91.out 6 rfl i (by unfold rowsI; rw [List.length_map]; exact hiy))
          have S93 := Lib.hid (Bag.bag_of_one S92.out 4 (r := rowI (some ⟨g3, 0, none⟩) c3 (ys.set i ⟨ys[i].k, a1, c1, rl⟩)) (by unfold RowS.res rowI; dsimp only; rw [List.length_set, hyl]; rfl))
          have S94 := Lib.hid (Bag.bag_join S93.out 4 6 (by decide) rfl rfl)
          refine ⟨⟨nm3, some ⟨g3, 0, none⟩, c3, ys.set i ⟨ys[i].k, a1, c1, rl⟩, au3⟩, ?_, ?_, ?_, S94.out.old⟩
          · rw [HE.out]; unfold LS.v LS.cells; dsimp only; rw [List.length_set, hyl]
          · rw [HE.out]; unfold LS.con; dsimp only; rw [conI_set, HCE.out]; unfold LI.con; dsimp only; rw [HKI.out]
          · have h := Bag.bag_from S94.out 4 rfl
            unfold LS.rows; rw [rowsI_set]; exact h
        | none =>
          have hfi2 : fi = -1 := by have h := HFI.out; unfold fndI at h; rw [hfo] at h; exact h.symm
          subst hfi2
          by_cases h16 : (16 : Int) ≤ (N : Int)
          · have HE := Lib.hid (show res = (⟨nm3, conI xs, au3⟩, false) from by rw [HP.out, hfo]; dsimp only; rw [if_pos (by rw [conI_length, ← HN.out]; omega)])
            clear hfo
            go_upto_region 9 with fail
            clear f0 f1 f2 f3 f4 f5 f6 f7 f8 f9 f10 f11 f12
            have f0 : World.cell? _ ⟨w.heap.size + 1 + 1 + 1, 0, none⟩ = some (.string ⟨#[]⟩) := Bag.cell_at S7.out 3 rfl 0 rfl
            have f1 : World.cell? _ ⟨w.heap.size + 1 + 1 + 1, 1, none⟩ = some (.slice none 0 0) := Bag.cell_at S7.out 3 rfl 1 rfl
            have f2 : World.cell? _ ⟨w.heap.size + 1 + 1 + 1, 2, none⟩ = some (.int .i64 0) := Bag.cell_at S7.out 3 rfl 2 rfl
            have f3 : World.cell? _ ⟨g1, 0, none⟩ = some (.string nm3) := Bag.cell_at S7.out 5 rfl 0 rfl
            have f4 : World.cell? _ ⟨g1, 1, none⟩ = some (.slice a3 N c3) := Bag.cell_at S7.out 5 rfl 1 rfl
            have f5 : World.cell? _ ⟨g1, 2, none⟩ = some (.int .i64 au3) := Bag.cell_at S7.out 5 rfl 2 rfl
            have z0 := Bag.free_at S7.out 3 rfl 0
            have z1 := Bag.free_at S7.out 3 rfl 1
            have z2 := Bag.free_at S7.out 3 rfl 2
            go_wp2_with fail
            clear f0 f1 f2 f3 f4 f5 z0 z1 z2
            have S8 := Lib.hid (show Sl.Sep w _ [L4.boxR w.heap.size 26 #[.string nm3, .slice a N c, .int .i64 au3], L4.boxR (w.heap.size + 1) 28 #[.int .i64 pk, .int .i64 pn, .string pt], L4.boxR (w.heap.size + 1 + 1) 31 #[.slice ra M rc], L4.boxR (w.heap.size + 1 + 1 + 1) 26 #[.string nm3, .slice a3 N c3, .int .i64 au3], Bag.bag ((LS.mk nm3 a3 c3 ys au3).rows), L4.boxR g1 26 #[.string nm3, .slice a3 N c3, .int .i64 au3]] from L5.put_box5 (L5.put_box5 (L5.put_box5 (S7.out) 3 rfl 0 (.string nm3)) 3 rfl 1 (.slice a3 N c3)) 3 rfl 2 (.int .i64 au3))
            clear S7
            have f0 : World.cell? _ ⟨w.heap.size + 1 + 1 + 1, 0, none⟩ = some (.string nm3) := Bag.cell_at S8.out 3 rfl 0 rfl
            have f1 : World.cell? _ ⟨w.heap.size + 1 + 1 + 1, 1, none⟩ = some (.slice a3 N c3) := Bag.cell_at S8.out 3 rfl 1 rfl
            have f2 : World.cell? _ ⟨w.heap.size + 1 + 1 + 1, 2, none⟩ = some (.int .i64 au3) := Bag.cell_at S8.out 3 rfl 2 rfl
            refine bodyPost_ret (v := .tuple #[.agg #[.string nm3, .slice a3 N c3, .int .i64 au3], .bool false]) (by simp [results, Try.results18, go_sem, *]) rfl ?_
            clear f0 f1 f2
            exact ⟨⟨nm3, a3, c3, ys, au3⟩, by rw [HE.out]; unfold LS.v LS.cells; dsimp only; rw [hyl], by rw [HE.out]; unfold LS.con; dsimp only; rw [HCE.out], Bag.bag_from S8.out 4 rfl, S8.out.old⟩
          · skip
            have HE := Lib.hid (show res = (⟨nm3, (conI xs).take (posI (conI xs) ⟨pk, pn, pt⟩) ++ ⟨⟨pk, pn, pt⟩, rl⟩ :: (conI xs).drop (posI (conI xs) ⟨pk, pn, pt⟩), nextAuto au3 ⟨pk, pn, pt⟩⟩, true) from by rw [HP.out, hfo]; dsimp only; rw [if_neg (by rw [conI_length, ← HN.out]; omega)])
            clear hfo
            have HAU := Lib.hid (show 0 ≤ au3 ∧ au3 ≤ 1000000 from by have h := HBS.out; unfold isS at h; simp only [Bool.and_eq_true] at h; exact L1.inB_true.1 h.2.2.2)
            clear f0 f1 f2 f3 f4 f5 f6 f7 f8 f9 f10 f11 f12
            have S8 := Lib.hid (show Sl.Sep w _ [L4.boxR w.heap.size 26 #[.string nm3, .slice a N c, .int .i64 au3], L4.boxR (w.heap.size + 1) 28 #[.int .i64 pk, .int .i64 pn, .string pt], L4.boxR (w.heap.size + 1 + 1) 31 #[.slice ra M rc], L4.boxR (w.heap.size + 1 + 1 + 1) 26 #[.string ⟨#[]⟩, .slice none 0 0, .int .i64 0], Bag.bag ([rowI a3 c3 ys] ++ rowsI ys), L4.boxR g1 26 #[.string nm3, .slice a3 N c3, .int .i64 au3]] from S7.out)
            clear S7
            have S9 := Lib.hid (show Sl.Sep w _ [L4.boxR w.heap.size 26 #[.string nm3, .slice a N c, .int .i64 au3], L4.boxR (w.heap.size + 1) 28 #[.int .i64 pk, .int .i64 pn, .string pt], L4.boxR (w.heap.size + 1 + 1) 31 #[.slice ra M rc], L4.boxR (w.heap.size + 1 + 1 + 1) 26 #[.string ⟨#[]⟩, .slice none 0 0, .int .i64 0], Bag.bag ([rowI a3 c3 ys]), L4.boxR g1 26 #[.string nm3, .slice a3 N c3, .int .i64 au3], Bag.bag (rowsI ys)] from Bag.bag_split S8.out 4 rfl)
            clear S8
            have S10 := Lib.hid (show Sl.Sep w _ [L4.boxR w.heap.size 26 #[.string nm3, .slice a N c, .int .i64 au3], L4.boxR (w.heap.size + 1) 28 #[.int .i64 pk, .int .i64 pn, .string pt], L4.boxR (w.heap.size + 1 + 1) 31 #[.slice ra M rc], L4.boxR (w.heap.size + 1 + 1 + 1) 26 #[.string ⟨#[]⟩, .slice none 0 0, .int .i64 0], Sv.ownV 40 4 a3 c3 N (cellsI ys), L4.boxR g1 26 #[.string nm3, .slice a3 N c3, .int .i64 au3], Bag.bag (rowsI ys)] from (by have h := Bag.one_of_bag S9.out 4 (r := rowI a3 c3 ys) rfl; unfold RowS.res rowI at h; dsimp only at h; rw [hyl] at h; exact h))
            clear S9
            have f0 : World.cell? _ ⟨w.heap.size, 0, none⟩ = some (.string nm3) := Bag.cell_at S10.out 0 rfl 0 rfl
            have f1 : World.cell? _ ⟨w.heap.size, 1, none⟩ = some (.slice a N c) := Bag.cell_at S10.out 0 rfl 1 rfl
            have f2 : World.cell? _ ⟨w.heap.size, 2, none⟩ = some (.int .i64 au3) := Bag.cell_at S10.out 0 rfl 2 rfl
            have f3 : World.cell? _ ⟨w.heap.size + 1, 0, none⟩ = some (.int .i64 pk) := Bag.cell_at S10.out 1 rfl 0 rfl
            have f4 : World.cell? _ ⟨w.heap.size + 1, 1, none⟩ = some (.int .i64 pn) := Bag.cell_at S10.out 1 rfl 1 rfl
            have f5 : World.cell? _ ⟨w.heap.size + 1, 2, none⟩ = some (.string pt) := Bag.cell_at S10.out 1 rfl 2 rfl
            have f6 : World.cell? _ ⟨w.heap.size + 1 + 1, 0, none⟩ = some (.slice ra M rc) := Bag.cell_at S10.out 2 rfl 0 rfl
            have f7 : World.cell? _ ⟨w.heap.size + 1 + 1 + 1, 0, none⟩ = some (.string ⟨#[]⟩) := Bag.cell_at S10.out 3 rfl 0 rfl
            have f8 : World.cell? _ ⟨w.heap.size + 1 + 1 + 1, 1, none⟩ = some (.slice none 0 0) := Bag.cell_at S10.out 3 rfl 1 rfl
            have f9 : World.cell? _ ⟨w.heap.size + 1 + 1 + 1, 2, none⟩ = some (.int .i64 0) := Bag.cell_at S10.out 3 rfl 2 rfl
            have f10 : World.cell? _ ⟨g1, 0, none⟩ = some (.string nm3) := Bag.cell_at S10.out 5 rfl 0 rfl
            have f11 : World.cell? _ ⟨g1, 1, none⟩ = some (.slice a3 N c3) := Bag.cell_at S10.out 5 rfl 1 rfl
            have f12 : World.cell? _ ⟨g1, 2, none⟩ = some (.int .i64 au3) := Bag.cell_at S10.out 5 rfl 2 rfl
            go_wp2_with fail
            go_loopw [10] (fun i wr => ∃ k : Nat, k ≤ N ∧ i = .int .i64 k ∧ Hid ((∀ j (hj : j < (conI xs).length), j < k → cmpK (conI xs)[j].k ⟨pk, pn, pt⟩ < 0) ∧ Sl.Sep w wr [L4.boxR w.heap.size 26 #[.string nm3, .slice a N c, .int .i64 au3], L4.boxR (w.heap.size + 1) 28 #[.int .i64 pk, .int .i64 pn, .string pt], L4.boxR (w.heap.size + 1 + 1) 31 #[.slice ra M rc], L4.boxR (w.heap.size + 1 + 1 + 1) 26 #[.string ⟨#[]⟩, .slice none 0 0, .int .i64 0], Sv.ownV 40 4 a3 c3 N (cellsI ys), L4.boxR g1 26 #[.string nm3, .slice a3 N c3, .int .i64 au3], Bag.bag (rowsI ys)])) (fun i _ => N - (intOf i).toNat)
            case atStart => exact ⟨0, Nat.zero_le _, rfl, And.intro (fun j hj h => absurd h (by omega)) S10.out⟩
            case round =>
              clear f0 f1 f2 f3 f4 f5 f6 f7 f8 f9 f10 f11 f12
              obtain ⟨k, hk, rfl, hrel⟩ := hrel
              have HA := Lib.hid hrel.out.1
              have S11 := Lib.hid hrel.out.2
              clear hrel S10
              by_cases hlt : (k : Int) < (N : Int)
              · skip
                have hkl : k < xs.length := by have := HN.out; omega
                obtain ⟨ad, x, rfl, hx⟩ := readsI_some (HR.out _ S11.out.old) k hkl
                obtain ⟨⟨kd, n, t⟩, ia, ic, l⟩ := x
                have HK := Lib.hid (fun w' (h : Below w.heap.size w w') => readsI_at (HR.out _ h) k _ hx)
                try dsimp only at HK
                have HFI := Lib.hid (fit_at HF.out hx)
                try dsimp only [LI.con] at HFI
                have hci : k < (conI xs).length := by rw [conI_length]; exact hkl
                have HC := Lib.hid (show (conI xs)[k]? = some (⟨⟨kd, n, t⟩, l⟩ : It) from con_of hx)
                clear hx
                obtain ⟨cv, hcv⟩ : ∃ b, cmpK ⟨kd, n, t⟩ ⟨pk, pn, pt⟩ = b := ⟨_, rfl⟩
                have HCMP := fun w => L4.specCompareKeys_any ⟨kd, n, t⟩ ⟨pk, pn, pt⟩ (by have : t.size ≤ 1099511627776 := HFI.out.text; show t.size ≤ _; omega) (by show pt.size ≤ _; omega) w
                rw [hcv] at HCMP
                replace HCMP := Lib.hid HCMP
                have HCV := Lib.hid hcv
                clear hcv
                have f0 : World.cell? _ ⟨w.heap.size, 0, none⟩ = some (.string nm3) := Bag.cell_at S11.out 0 rfl 0 rfl
                have f1 : World.cell? _ ⟨w.heap.size, 1, none⟩ = some (.slice (some ad) N c) := Bag.cell_at S11.out 0 rfl 1 rfl
                have f2 : World.cell? _ ⟨w.heap.size, 2, none⟩ = some (.int .i64 au3) := Bag.cell_at S11.out 0 rfl 2 rfl
                have f3 : World.cell? _ ⟨w.heap.size + 1, 0, none⟩ = some (.int .i64 pk) := Bag.cell_at S11.out 1 rfl 0 rfl
                have f4 : World.cell? _ ⟨w.heap.size + 1, 1, none⟩ = some (.int .i64 pn) := Bag.cell_at S11.out 1 rfl 1 rfl
                have f5 : World.cell? _ ⟨w.heap.size + 1, 2, none⟩ = some (.string pt) := Bag.cell_at S11.out 1 rfl 2 rfl
                have f6 : World.cell? _ ⟨w.heap.size + 1 + 1, 0, none⟩ = some (.slice ra M rc) := Bag.cell_at S11.out 2 rfl 0 rfl
                have f7 : World.cell? _ ⟨w.heap.size + 1 + 1 + 1, 0, none⟩ = some (.string ⟨#[]⟩) := Bag.cell_at S11.out 3 rfl 0 rfl
                have f8 : World.cell? _ ⟨w.heap.size + 1 + 1 + 1, 1, none⟩ = some (.slice none 0 0) := Bag.cell_at S11.out 3 rfl 1 rfl
                have f9 : World.cell? _ ⟨w.heap.size + 1 + 1 + 1, 2, none⟩ = some (.int .i64 0) := Bag.cell_at S11.out 3 rfl 2 rfl
                have f10 : World.cell? _ ⟨g1, 0, none⟩ = some (.string nm3) := Bag.cell_at S11.out 5 rfl 0 rfl
                have f11 : World.cell? _ ⟨g1, 1, none⟩ = some (.slice a3 N c3) := Bag.cell_at S11.out 5 rfl 1 rfl
                have f12 : World.cell? _ ⟨g1, 2, none⟩ = some (.int .i64 au3) := Bag.cell_at S11.out 5 rfl 2 rfl
                have f13 : World.cell? _ (ad.add (k * 4)) = some (.int .i64 kd) := (HK.out _ S11.out.old).1
                have f14 : World.cell? _ (⟨(ad.add (k * 4)).block, (ad.add (k * 4)).off + 1, none⟩) = some (.int .i64 n) := (HK.out _ S11.out.old).2.1
                have f15 : World.cell? _ (⟨(ad.add (k * 4)).block, (ad.add (k * 4)).off + 2, none⟩) = some (.string t) := (HK.out _ S11.out.old).2.2.1
                have f16 : World.cell? _ (⟨(ad.add (k * 4)).block, (ad.add (k * 4)).off + 3, none⟩) = some (.slice ia l.length ic) := (HK.out _ S11.out.old).2.2.2
                by_cases hc : cv < 0
                · skip
                  go_upto_region 11 with fail
                  clear f0 f1 f2 f3 f4 f5 f6 f7 f8 f9 f10 f11 f12 f13 f14 f15 f16
                  refine wp_region_held_drew (S := (fun w' => World.cell? w' ⟨w.heap.size, 0, none⟩ = some (.string nm3) ∧ World.cell? w' ⟨w.heap.size, 1, none⟩ = some (.slice (some ad) N c) ∧ World.cell? w' ⟨w.heap.size, 2, none⟩ = some (.int .i64 au3) ∧ World.cell? w' ⟨w.heap.size + 1, 0, none⟩ = some (.int .i64 pk) ∧ World.cell? w' ⟨w.heap.size + 1, 1, none⟩ = some (.int .i64 pn) ∧ World.cell? w' ⟨w.heap.size + 1, 2, none⟩ = some (.string pt) ∧ World.cell? w' (ad.add (k * 4)) = some (.int .i64 kd) ∧ World.cell? w' (⟨(ad.add (k * 4)).block, (ad.add (k * 4)).off + 1, none⟩) = some (.int .i64 n) ∧ World.cell? w' (⟨(ad.add (k * 4)).block, (ad.add (k * 4)).off + 2, none⟩) = some (.string t) ∧ World.cell? w' (⟨(ad.add (k * 4)).block, (ad.add (k * 4)).off + 3, none⟩) = some (.slice ia l.length ic))) (by kernel_rfl) ⟨Bag.cell_at S11.out 0 rfl 0 rfl, Bag.cell_at S11.out 0 rfl 1 rfl, Bag.cell_at S11.out 0 rfl 2 rfl, Bag.cell_at S11.out 1 rfl 0 rfl, Bag.cell_at S11.out 1 rfl 1 rfl, Bag.cell_at S11.out 1 rfl 2 rfl, (HK.out _ S11.out.old).1, (HK.out _ S11.out.old).2.1, (HK.out _ S11.out.old).2.2.1, (HK.out _ S11.out.old).2.2.2⟩ (fun hS => ?_)
                  have S12 := Lib.hid (show Sl.Sep w _ [L4.boxR w.heap.size 26 #[.string nm3, .slice (some ad) N c, .int .i64 au3], L4.boxR (w.heap.size + 1) 28 #[.int .i64 pk, .int .i64 pn, .string pt], L4.boxR (w.heap.size + 1 + 1) 31 #[.slice ra M rc], L4.boxR (w.heap.size + 1 + 1 + 1) 26 #[.string ⟨#[]⟩, .slice none 0 0, .int .i64 0], Sv.ownV 40 4 a3 c3 N (cellsI ys), L4.boxR g1 26 #[.string nm3, .slice a3 N c3, .int .i64 au3], Bag.bag (rowsI ys)] from Bag.drew1 S11.out)
                  clear S11
                  generalize World.drew _ = w7 at hS S12 ⊢
                  refine tk 0 rfl ?_
                  try simp only [zp0, zp1, zp2, zp3, zp4]
                  refine tk 1 rfl ?_
                  try simp only [zp0, zp1, zp2, zp3, zp4]
                  refine tk 2 rfl ?_
                  try simp only [zp0, zp1, zp2, zp3, zp4]
                  refine tk 3 rfl ?_
                  try simp only [zp0, zp1, zp2, zp3, zp4]
                  refine tk 4 rfl ?_
                  try simp only [zp0, zp1, zp2, zp3, zp4]
                  refine tk 5 rfl ?_
                  try simp only [zp0, zp1, zp2, zp3, zp4]
                  refine tk 6 rfl ?_
                  try simp only [zp0, zp1, zp2, zp3, zp4]
                  refine tk 7 rfl ?_
                  try simp only [zp0, zp1, zp2, zp3, zp4]
                  refine tk 8 rfl ?_
                  try simp only [zp0, zp1, zp2, zp3, zp4]
                  refine tk 9 rfl ?_
                  try simp only [zp0, zp1, zp2, zp3, zp4]
                  refine tk 10 rfl ?_
                  try simp only [zp0, zp1, zp2, zp3, zp4]
                  refine tk 11 rfl ?_
                  try simp only [zp0, zp1, zp2, zp3, zp4]
                  refine tk 12 rfl ?_
                  try simp only [zp0, zp1, zp2, zp3, zp4]
                  refine Reg.one_op (i := 13) rfl (by kernel_rfl) (fun K hK => ?_)
                  go_simp
                  go_at_call 68
                  refine (HCMP.out _).mono ?_
                  rintro e w8 ⟨rfl, hb⟩
                  have S13 := Lib.hid (show Sl.Sep w _ [L4.boxR w.heap.size 26 #[.string nm3, .slice (some ad) N c, .int .i64 au3], L4.boxR (w.heap.size + 1) 28 #[.int .i64 pk, .int .i64 pn, .string pt], L4.boxR (w.heap.size + 1 + 1) 31 #[.slice ra M rc], L4.boxR (w.heap.size + 1 + 1 + 1) 26 #[.string ⟨#[]⟩, .slice none 0 0, .int .i64 0], Sv.ownV 40 4 a3 c3 N (cellsI ys), L4.boxR g1 26 #[.string nm3, .slice a3 N c3, .int .i64 au3], Bag.bag (rowsI ys)] from S12.out.keep hb)
                  clear S12
                  clear hb
                  go_wp2_with fail
                  refine hK.out _ _ ⟨Bag.cell_at S13.out 0 rfl 0 rfl, Bag.cell_at S13.out 0 rfl 1 rfl, Bag.cell_at S13.out 0 rfl 2 rfl, Bag.cell_at S13.out 1 rfl 0 rfl, Bag.cell_at S13.out 1 rfl 1 rfl, Bag.cell_at S13.out 1 rfl 2 rfl, (HK.out _ S13.out.old).1, (HK.out _ S13.out.old).2.1, (HK.out _ S13.out.old).2.2.1, (HK.out _ S13.out.old).2.2.2⟩ (fun hS => ?_)
                  clear hK K
                  try simp only [zp0, zp1, zp2, zp3, zp4]
                  refine tk 14 rfl ?_
                  try simp only [zp0, zp1, zp2, zp3, zp4]
                  refine tk 15 rfl ?_
                  try simp only [zp0, zp1, zp2, zp3, zp4]
                  refine wpAnyH_done (by kernel_rfl) ?_ _
                  have f0 : World.cell? _ ⟨w.heap.size, 0, none⟩ = some (.string nm3) := Bag.cell_at S13.out 0 rfl 0 rfl
                  have f1 : World.cell? _ ⟨w.heap.size, 1, none⟩ = some (.slice (some ad) N c) := Bag.cell_at S13.out 0 rfl 1 rfl
                  have f2 : World.cell? _ ⟨w.heap.size, 2, none⟩ = some (.int .i64 au3) := Bag.cell_at S13.out 0 rfl 2 rfl
                  have f3 : World.cell? _ ⟨w.heap.size + 1, 0, none⟩ = some (.int .i64 pk) := Bag.cell_at S13.out 1 rfl 0 rfl
                  have f4 : World.cell? _ ⟨w.heap.size + 1, 1, none⟩ = some (.int .i64 pn) := Bag.cell_at S13.out 1 rfl 1 rfl
                  have f5 : World.cell? _ ⟨w.heap.size + 1, 2, none⟩ = some (.string pt) := Bag.cell_at S13.out 1 rfl 2 rfl
                  have f6 : World.cell? _ ⟨w.heap.size + 1 + 1, 0, none⟩ = some (.slice ra M rc) := Bag.cell_at S13.out 2 rfl 0 rfl
                  have f7 : World.cell? _ ⟨w.heap.size + 1 + 1 + 1, 0, none⟩ = some (.string ⟨#[]⟩) := Bag.cell_at S13.out 3 rfl 0 rfl
                  have f8 : World.cell? _ ⟨w.heap.size + 1 + 1 + 1, 1, none⟩ = some (.slice none 0 0) := Bag.cell_at S13.out 3 rfl 1 rfl
                  have f9 : World.cell? _ ⟨w.heap.size + 1 + 1 + 1, 2, none⟩ = some (.int .i64 0) := Bag.cell_at S13.out 3 rfl 2 rfl
                  have f10 : World.cell? _ ⟨g1, 0, none⟩ = some (.string nm3) := Bag.cell_at S13.out 5 rfl 0 rfl
                  have f11 : World.cell? _ ⟨g1, 1, none⟩ = some (.slice a3 N c3) := Bag.cell_at S13.out 5 rfl 1 rfl
                  have f12 : World.cell? _ ⟨g1, 2, none⟩ = some (.int .i64 au3) := Bag.cell_at S13.out 5 rfl 2 rfl
                  have f13 : World.cell? _ (ad.add (k * 4)) = some (.int .i64 kd) := (HK.out _ S13.out.old).1
                  have f14 : World.cell? _ (⟨(ad.add (k * 4)).block, (ad.add (k * 4)).off + 1, none⟩) = some (.int .i64 n) := (HK.out _ S13.out.old).2.1
                  have f15 : World.cell? _ (⟨(ad.add (k * 4)).block, (ad.add (k * 4)).off + 2, none⟩) = some (.string t) := (HK.out _ S13.out.old).2.2.1
                  have f16 : World.cell? _ (⟨(ad.add (k * 4)).block, (ad.add (k * 4)).off + 3, none⟩) = some (.slice ia l.length ic) := (HK.out _ S13.out.old).2.2.2
                  go_wp2_with fail
                  go_roundw
                  case rel => exact ⟨k + 1, by omega, by go_num, And.intro (fun j hj h => by
                    by_cases e : j < k
                    · exact HA.out j hj e
                    · obtain rfl : j = k := by omega
                      rw [(List.getElem?_eq_some_iff.1 HC.out).2, HCV.out]; exact hc) S13.out⟩
                  case measure => simp [intOf]; omega
                · have hc2 : 0 ≤ cv := by omega
                  go_upto_region 11 with fail
                  clear f0 f1 f2 f3 f4 f5 f6 f7 f8 f9 f10 f11 f12 f13 f14 f15 f16
                  refine wp_region_held_drew (S := (fun w' => World.cell? w' ⟨w.heap.size, 0, none⟩ = some (.string nm3) ∧ World.cell? w' ⟨w.heap.size, 1, none⟩ = some (.slice (some ad) N c) ∧ World.cell? w' ⟨w.heap.size, 2, none⟩ = some (.int .i64 au3) ∧ World.cell? w' ⟨w.heap.size + 1, 0, none⟩ = some (.int .i64 pk) ∧ World.cell? w' ⟨w.heap.size + 1, 1, none⟩ = some (.int .i64 pn) ∧ World.cell? w' ⟨w.heap.size + 1, 2, none⟩ = some (.string pt) ∧ World.cell? w' (ad.add (k * 4)) = some (.int .i64 kd) ∧ World.cell? w' (⟨(ad.add (k * 4)).block, (ad.add (k * 4)).off + 1, none⟩) = some (.int .i64 n) ∧ World.cell? w' (⟨(ad.add (k * 4)).block, (ad.add (k * 4)).off + 2, none⟩) = some (.string t) ∧ World.cell? w' (⟨(ad.add (k * 4)).block, (ad.add (k * 4)).off + 3, none⟩) = some (.slice ia l.length ic))) (by kernel_rfl) ⟨Bag.cell_at S11.out 0 rfl 0 rfl, Bag.cell_at S11.out 0 rfl 1 rfl, Bag.cell_at S11.out 0 rfl 2 rfl, Bag.cell_at S11.out 1 rfl 0 rfl, Bag.cell_at S11.out 1 rfl 1 rfl, Bag.cell_at S11.out 1 rfl 2 rfl, (HK.out _ S11.out.old).1, (HK.out _ S11.out.old).2.1, (HK.out _ S11.out.old).2.2.1, (HK.out _ S11.out.old).2.2.2⟩ (fun hS => ?_)
                  have S12 := Lib.hid (show Sl.Sep w _ [L4.boxR w.heap.size 26 #[.string nm3, .slice (some ad) N c, .int .i64 au3], L4.boxR (w.heap.size + 1) 28 #[.int .i64 pk, .int .i64 pn, .string pt], L4.boxR (w.heap.size + 1 + 1) 31 #[.slice ra M rc], L4.boxR (w.heap.size + 1 + 1 + 1) 26 #[.string ⟨#[]⟩, .slice none 0 0, .int .i64 0], Sv.ownV 40 4 a3 c3 N (cellsI ys), L4.boxR g1 26 #[.string nm3, .slice a3 N c3, .int .i64 au3], Bag.bag (rowsI ys)] from Bag.drew1 S11.out)
                  clear S11
                  generalize World.drew _ = w7 at hS S12 ⊢
                  refine tk 0 rfl ?_
                  try simp only [zp0, zp1, zp2, zp3, zp4]
                  refine tk 1 rfl ?_
                  try simp only [zp0, zp1, zp2, zp3, zp4]
                  refine tk 2 rfl ?_
                  try simp only [zp0, zp1, zp2, zp3, zp4]
                  refine tk 3 rfl ?_
                  try simp only [zp0, zp1, zp2, zp3, zp4]
                  refine tk 4 rfl ?_
                  try simp only [zp0, zp1, zp2, zp3, zp4]
                  refine tk 5 rfl ?_
                  try simp only [zp0, zp1, zp2, zp3, zp4]
                  refine tk 6 rfl ?_
                  try simp only [zp0, zp1, zp2, zp3, zp4]
                  refine tk 7 rfl ?_
                  try simp only [zp0, zp1, zp2, zp3, zp4]
                  refine tk 8 rfl ?_
                  try simp only [zp0, zp1, zp2, zp3, zp4]
                  refine tk 9 rfl ?_
                  try simp only [zp0, zp1, zp2, zp3, zp4]
                  refine tk 10 rfl ?_
                  try simp only [zp0, zp1, zp2, zp3, zp4]
                  refine tk 11 rfl ?_
                  try simp only [zp0, zp1, zp2, zp3, zp4]
                  refine tk 12 rfl ?_
                  try simp only [zp0, zp1, zp2, zp3, zp4]
                  refine Reg.one_op (i := 13) rfl (by kernel_rfl) (fun K hK => ?_)
                  go_simp
                  go_at_call 68
                  refine (HCMP.out _).mono ?_
                  rintro e w8 ⟨rfl, hb⟩
                  have S13 := Lib.hid (show Sl.Sep w _ [L4.boxR w.heap.size 26 #[.string nm3, .slice (some ad) N c, .int .i64 au3], L4.boxR (w.heap.size + 1) 28 #[.int .i64 pk, .int .i64 pn, .string pt], L4.boxR (w.heap.size + 1 + 1) 31 #[.slice ra M rc], L4.boxR (w.heap.size + 1 + 1 + 1) 26 #[.string ⟨#[]⟩, .slice none 0 0, .int .i64 0], Sv.ownV 40 4 a3 c3 N (cellsI ys), L4.boxR g1 26 #[.string nm3, .slice a3 N c3, .int .i64 au3], Bag.bag (rowsI ys)] from S12.out.keep hb)
                  clear S12
                  clear hb
                  go_wp2_with fail
                  refine hK.out _ _ ⟨Bag.cell_at S13.out 0 rfl 0 rfl, Bag.cell_at S13.out 0 rfl 1 rfl, Bag.cell_at S13.out 0 rfl 2 rfl, Bag.cell_at S13.out 1 rfl 0 rfl, Bag.cell_at S13.out 1 rfl 1 rfl, Bag.cell_at S13.out 1 rfl 2 rfl, (HK.out _ S13.out.old).1, (HK.out _ S13.out.old).2.1, (HK.out _ S13.out.old).2.2.1, (HK.out _ S13.out.old).2.2.2⟩ (fun hS => ?_)
                  clear hK K
                  try simp only [zp0, zp1, zp2, zp3, zp4]
                  refine tk 14 rfl ?_
                  try simp only [zp0, zp1, zp2, zp3, zp4]
                  refine tk 15 rfl ?_
                  try simp only [zp0, zp1, zp2, zp3, zp4]
                  refine wpAnyH_done (by kernel_rfl) ?_ _
                  have f0 : World.cell? _ ⟨w.heap.size, 0, none⟩ = some (.string nm3) := Bag.cell_at S13.out 0 rfl 0 rfl
                  have f1 : World.cell? _ ⟨w.heap.size, 1, none⟩ = some (.slice (some ad) N c) := Bag.cell_at S13.out 0 rfl 1 rfl
                  have f2 : World.cell? _ ⟨w.heap.size, 2, none⟩ = some (.int .i64 au3) := Bag.cell_at S13.out 0 rfl 2 rfl
                  have f3 : World.cell? _ ⟨w.heap.size + 1, 0, none⟩ = some (.int .i64 pk) := Bag.cell_at S13.out 1 rfl 0 rfl
                  have f4 : World.cell? _ ⟨w.heap.size + 1, 1, none⟩ = some (.int .i64 pn) := Bag.cell_at S13.out 1 rfl 1 rfl
                  have f5 : World.cell? _ ⟨w.heap.size + 1, 2, none⟩ = some (.string pt) := Bag.cell_at S13.out 1 rfl 2 rfl
                  have f6 : World.cell? _ ⟨w.heap.size + 1 + 1, 0, none⟩ = some (.slice ra M rc) := Bag.cell_at S13.out 2 rfl 0 rfl
                  have f7 : World.cell? _ ⟨w.heap.size + 1 + 1 + 1, 0, none⟩ = some (.string ⟨#[]⟩) := Bag.cell_at S13.out 3 rfl 0 rfl
                  have f8 : World.cell? _ ⟨w.heap.size + 1 + 1 + 1, 1, none⟩ = some (.slice none 0 0) := Bag.cell_at S13.out 3 rfl 1 rfl
                  have f9 : World.cell? _ ⟨w.heap.size + 1 + 1 + 1, 2, none⟩ = some (.int .i64 0) := Bag.cell_at S13.out 3 rfl 2 rfl
                  have f10 : World.cell? _ ⟨g1, 0, none⟩ = some (.string nm3) := Bag.cell_at S13.out 5 rfl 0 rfl
                  have f11 : World.cell? _ ⟨g1, 1, none⟩ = some (.slice a3 N c3) := Bag.cell_at S13.out 5 rfl 1 rfl
                  have f12 : World.cell? _ ⟨g1, 2, none⟩ = some (.int .i64 au3) := Bag.cell_at S13.out 5 rfl 2 rfl
                  have f13 : World.cell? _ (ad.add (k * 4)) = some (.int .i64 kd) := (HK.out _ S13.out.old).1
                  have f14 : World.cell? _ (⟨(ad.add (k * 4)).block, (ad.add (k * 4)).off + 1, none⟩) = some (.int .i64 n) := (HK.out _ S13.out.old).2.1
                  have f15 : World.cell? _ (⟨(ad.add (k * 4)).block, (ad.add (k * 4)).off + 2, none⟩) = some (.string t) := (HK.out _ S13.out.old).2.2.1
                  have f16 : World.cell? _ (⟨(ad.add (k * 4)).block, (ad.add (k * 4)).off + 3, none⟩) = some (.slice ia l.length ic) := (HK.out _ S13.out.old).2.2.2
                  have HPOS := Lib.hid (posI_at (xs := conI xs) (k := ⟨pk, pn, pt⟩) k (by omega) HA.out (fun h => by rw [(List.getElem?_eq_some_iff.1 HC.out).2, HCV.out]; omega))
                  clear f0 f1 f2 f3 f4 f5 f6 f7 f8 f9 f10 f11 f12 f13 f14 f15 f16
                  obtain ⟨g9, rfl⟩ : ∃ g, a3 = some ⟨g, 0, none⟩ := by
                    rcases (Sv.own_at S13.out 4 rfl).form with ⟨_, h0, _⟩ | ⟨g, e, _⟩
                    · omega
                    · exact ⟨g, e⟩
                  have hky : k ≤ ys.length := by omega
                  have hck : (k : Int) ≤ (c3 : Int) := by have := (Sv.own_at S13.out 4 rfl).cap; omega
                  have S14 := Lib.hid (show Sl.Sep w _ [L4.boxR w.heap.size 26 #[.string nm3, .slice (some ad) N c, .int .i64 au3], L4.boxR (w.heap.size + 1) 28 #[.int .i64 pk, .int .i64 pn, .string pt], L4.boxR (w.heap.size + 1 + 1) 31 #[.slice ra M rc], L4.boxR (w.heap.size + 1 + 1 + 1) 26 #[.string ⟨#[]⟩, .slice none 0 0, .int .i64 0], Sv.ownV 40 4 (some ⟨g9, 0, none⟩) c3 N (cellsI ys), L4.boxR g1 26 #[.string nm3, .slice (some ⟨g9, 0, none⟩) N c3, .int .i64 au3], Bag.bag (rowsI ys), Sv.ownV 40 4 (some ⟨w8.heap.size, 0, none⟩) 0 0 (cellsI [])] from Sv.push_own S13.out ((Below.refl _ _).alloc (Nat.le_refl _) _) (OwnV.madeAt w8 40 4 0 w8.heap.size #[] rfl (Nat.le_refl _) rfl (by decide)))
                  clear S13
                  have f0 : World.cell? _ ⟨g1, 0, none⟩ = some (.string nm3) := Bag.cell_at S14.out 5 rfl 0 rfl
                  have f1 : World.cell? _ ⟨g1, 1, none⟩ = some (.slice (some ⟨g9, 0, none⟩) N c3) := Bag.cell_at S14.out 5 rfl 1 rfl
                  have f2 : World.cell? _ ⟨g1, 2, none⟩ = some (.int .i64 au3) := Bag.cell_at S14.out 5 rfl 2 rfl
                  have f3 : World.cell? _ (ad.add (k * 4)) = some (.int .i64 kd) := (HK.out _ S14.out.old).1
                  have f4 : World.cell? _ (⟨(ad.add (k * 4)).block, (ad.add (k * 4)).off + 1, none⟩) = some (.int .i64 n) := (HK.out _ S14.out.old).2.1
                  have f5 : World.cell? _ (⟨(ad.add (k * 4)).block, (ad.add (k * 4)).off + 2, none⟩) = some (.string t) := (HK.out _ S14.out.old).2.2.1
                  have f6 : World.cell? _ (⟨(ad.add (k * 4)).block, (ad.add (k * 4)).off + 3, none⟩) = some (.slice ia l.length ic) := (HK.out _ S14.out.old).2.2.2
                  go_wp2_with (at_builtin; refine L5.wpList_append_v S14.out 7 rfl rfl _ _ 24 (by rfl) i0 (.agg #[.int .i64 0, .int .i64 0, .string ⟨#[]⟩, .slice none 0 0]) 56 Try.underlying24 HI.out.1 HI.out.2.1 HI.out.2.2.1 HI.out.2.2.2 rfl (by omega) _ (by rfl) rfl _ _ k _ _ (cellsI (ys.take k)) (by rfl) rfl (reads_head (Sv.own_at S14.out 4 rfl).reads k) (by rw [cellsI_length, List.length_take, Nat.min_eq_left hky]) (cellsI_one _) (by unfold maxLen; omega) (by omega) ?_; intro a2' c2' w9 hA)
                  clear f0 f1 f2 f3 f4 f5 f6
                  have S15 := Lib.hid (show Sl.Sep w w9 [L4.boxR w.heap.size 26 #[.string nm3, .slice (some ad) N c, .int .i64 au3], L4.boxR (w.heap.size + 1) 28 #[.int .i64 pk, .int .i64 pn, .string pt], L4.boxR (w.heap.size + 1 + 1) 31 #[.slice ra M rc], L4.boxR (w.heap.size + 1 + 1 + 1) 26 #[.string ⟨#[]⟩, .slice none 0 0, .int .i64 0], Sv.ownV 40 4 (some ⟨g9, 0, none⟩) c3 N (cellsI ys), L4.boxR g1 26 #[.string nm3, .slice (some ⟨g9, 0, none⟩) N c3, .int .i64 au3], Bag.bag (rowsI ys), Sv.ownV 40 4 a2' c2' k (cellsI (ys.take k))] from (by have h := hA; rw [Nat.zero_add] at h; exact h))
                  clear S14
                  clear hA
                  have f0 : World.cell? _ ⟨w.heap.size, 0, none⟩ = some (.string nm3) := Bag.cell_at S15.out 0 rfl 0 rfl
                  have f1 : World.cell? _ ⟨w.heap.size, 1, none⟩ = some (.slice (some ad) N c) := Bag.cell_at S15.out 0 rfl 1 rfl
                  have f2 : World.cell? _ ⟨w.heap.size, 2, none⟩ = some (.int .i64 au3) := Bag.cell_at S15.out 0 rfl 2 rfl
                  have f3 : World.cell? _ ⟨w.heap.size + 1, 0, none⟩ = some (.int .i64 pk) := Bag.cell_at S15.out 1 rfl 0 rfl
                  have f4 : World.cell? _ ⟨w.heap.size + 1, 1, none⟩ = some (.int .i64 pn) := Bag.cell_at S15.out 1 rfl 1 rfl
                  have f5 : World.cell? _ ⟨w.heap.size + 1, 2, none⟩ = some (.string pt) := Bag.cell_at S15.out 1 rfl 2 rfl
                  have f6 : World.cell? _ ⟨w.heap.size + 1 + 1, 0, none⟩ = some (.slice ra M rc) := Bag.cell_at S15.out 2 rfl 0 rfl
                  have f7 : World.cell? _ ⟨w.heap.size + 1 + 1 + 1, 0, none⟩ = some (.string ⟨#[]⟩) := Bag.cell_at S15.out 3 rfl 0 rfl
                  have f8 : World.cell? _ ⟨w.heap.size + 1 + 1 + 1, 1, none⟩ = some (.slice none 0 0) := Bag.cell_at S15.out 3 rfl 1 rfl
                  have f9 : World.cell? _ ⟨w.heap.size + 1 + 1 + 1, 2, none⟩ = some (.int .i64 0) := Bag.cell_at S15.out 3 rfl 2 rfl
                  have f10 : World.cell? _ ⟨g1, 0, none⟩ = some (.string nm3) := Bag.cell_at S15.out 5 rfl 0 rfl
                  have f11 : World.cell? _ ⟨g1, 1, none⟩ = some (.slice (some ⟨g9, 0, none⟩) N c3) := Bag.cell_at S15.out 5 rfl 1 rfl
                  have f12 : World.cell? _ ⟨g1, 2, none⟩ = some (.int .i64 au3) := Bag.cell_at S15.out 5 rfl 2 rfl
                  have f13 : World.cell? _ (ad.add (k * 4)) = some (.int .i64 kd) := (HK.out _ S15.out.old).1
                  have f14 : World.cell? _ (⟨(ad.add (k * 4)).block, (ad.add (k * 4)).off + 1, none⟩) = some (.int .i64 n) := (HK.out _ S15.out.old).2.1
                  have f15 : World.cell? _ (⟨(ad.add (k * 4)).block, (ad.add (k * 4)).off + 2, none⟩) = some (.string t) := (HK.out _ S15.out.old).2.2.1
                  have f16 : World.cell? _ (⟨(ad.add (k * 4)).block, (ad.add (k * 4)).off + 3, none⟩) = some (.slice ia l.length ic) := (HK.out _ S15.out.old).2.2.2
                  go_upto_region 14 with fail
                  clear f0 f1 f2 f3 f4 f5 f6 f7 f8 f9 f10 f11 f12 f13 f14 f15 f16
                  refine wp_region_held_drew (S := (fun w' => World.cell? w' ⟨w.heap.size + 1, 0, none⟩ = some (.int .i64 pk) ∧ World.cell? w' ⟨w.heap.size + 1, 1, none⟩ = some (.int .i64 pn) ∧ World.cell? w' ⟨w.heap.size + 1, 2, none⟩ = some (.string pt) ∧ World.cell? w' ⟨w.heap.size + 1 + 1, 0, none⟩ = some (.slice ra M rc) ∧ World.cell? w' (ad.add (k * 4)) = some (.int .i64 kd) ∧ World.cell? w' (⟨(ad.add (k * 4)).block, (ad.add (k * 4)).off + 1, none⟩) = some (.int .i64 n) ∧ World.cell? w' (⟨(ad.add (k * 4)).block, (ad.add (k * 4)).off + 2, none⟩) = some (.string t) ∧ World.cell? w' (⟨(ad.add (k * 4)).block, (ad.add (k * 4)).off + 3, none⟩) = some (.slice ia l.length ic))) (by kernel_rfl) ⟨Bag.cell_at S15.out 1 rfl 0 rfl, Bag.cell_at S15.out 1 rfl 1 rfl, Bag.cell_at S15.out 1 rfl 2 rfl, Bag.cell_at S15.out 2 rfl 0 rfl, (HK.out _ S15.out.old).1, (HK.out _ S15.out.old).2.1, (HK.out _ S15.out.old).2.2.1, (HK.out _ S15.out.old).2.2.2⟩ (fun hS => ?_)
                  have S16 := Lib.hid (show Sl.Sep w _ [L4.boxR w.heap.size 26 #[.string nm3, .slice (some ad) N c, .int .i64 au3], L4.boxR (w.heap.size + 1) 28 #[.int .i64 pk, .int .i64 pn, .string pt], L4.boxR (w.heap.size + 1 + 1) 31 #[.slice ra M rc], L4.boxR (w.heap.size + 1 + 1 + 1) 26 #[.string ⟨#[]⟩, .slice none 0 0, .int .i64 0], Sv.ownV 40 4 (some ⟨g9, 0, none⟩) c3 N (cellsI ys), L4.boxR g1 26 #[.string nm3, .slice (some ⟨g9, 0, none⟩) N c3, .int .i64 au3], Bag.bag (rowsI ys), Sv.ownV 40 4 a2' c2' k (cellsI (ys.take k))] from Bag.drew1 S15.out)
                  clear S15
                  generalize World.drew _ = w10 at hS S16 ⊢
                  refine tk 0 rfl ?_
                  try simp only [zp0, zp1, zp2, zp3, zp4]
                  refine tk 1 rfl ?_
                  try simp only [zp0, zp1, zp2, zp3, zp4]
                  refine tk 2 rfl ?_
                  try simp only [zp0, zp1, zp2, zp3, zp4]
                  refine Reg.one_op (i := 3) rfl (by kernel_rfl) (fun K hK => ?_)
                  go_simp
                  go_at_call 67
                  refine (HRC.out _ S16.out.old).mono ?_
                  rintro e w11 ⟨a1, c1, rfl, ho, hb⟩
                  have S17 := Lib.hid (show Sl.Sep w _ [L4.boxR w.heap.size 26 #[.string nm3, .slice (some ad) N c, .int .i64 au3], L4.boxR (w.heap.size + 1) 28 #[.int .i64 pk, .int .i64 pn, .string pt], L4.boxR (w.heap.size + 1 + 1) 31 #[.slice ra M rc], L4.boxR (w.heap.size + 1 + 1 + 1) 26 #[.string ⟨#[]⟩, .slice none 0 0, .int .i64 0], Sv.ownV 40 4 (some ⟨g9, 0, none⟩) c3 N (cellsI ys), L4.boxR g1 26 #[.string nm3, .slice (some ⟨g9, 0, none⟩) N c3, .int .i64 au3], Bag.bag (rowsI ys), Sv.ownV 40 4 a2' c2' k (cellsI (ys.take k)), Sv.ownV 102 2 a1 c1 M (cellsF rl)] from Sv.push_own S16.out hb ho)
                  clear S16
                  clear hb ho
                  go_wp2_with fail
                  refine hK.out _ _ ⟨Bag.cell_at S17.out 1 rfl 0 rfl, Bag.cell_at S17.out 1 rfl 1 rfl, Bag.cell_at S17.out 1 rfl 2 rfl, Bag.cell_at S17.out 2 rfl 0 rfl, (HK.out _ S17.out.old).1, (HK.out _ S17.out.old).2.1, (HK.out _ S17.out.old).2.2.1, (HK.out _ S17.out.old).2.2.2⟩ (fun hS => ?_)
                  clear hK K
                  try simp only [zp0, zp1, zp2, zp3, zp4]
                  refine tk 4 rfl ?_
                  try simp only [zp0, zp1, zp2, zp3, zp4]
                  refine Reg.one_op (i := 5) rfl (by kernel_rfl) (fun K hK => ?_)
                  go_simp
                  have S18 := Lib.hid (show Sl.Sep w _ [L4.boxR w.heap.size 26 #[.string nm3, .slice (some ad) N c, .int .i64 au3], L4.boxR (w.heap.size + 1) 28 #[.int .i64 pk, .int .i64 pn, .string pt], L4.boxR (w.heap.size + 1 + 1) 31 #[.slice ra M rc], L4.boxR (w.heap.size + 1 + 1 + 1) 26 #[.string ⟨#[]⟩, .slice none 0 0, .int .i64 0], Sv.ownV 40 4 (some ⟨g9, 0, none⟩) c3 N (cellsI ys), L4.boxR g1 26 #[.string nm3, .slice (some ⟨g9, 0, none⟩) N c3, .int .i64 au3], Bag.bag (rowsI ys), Sv.ownV 40 4 a2' c2' k (cellsI (ys.take k)), Sv.ownV 102 2 a1 c1 M (cellsF rl), Sv.ownV 40 4 (some ⟨w11.heap.size, 0, none⟩) 1 1 ([.int .i64 pk, .int .i64 pn, .string pt, .slice a1 M c1])] from Sv.push_own S17.out ((Below.refl _ _).alloc (Nat.le_refl _) _) (OwnV.madeAt w11 40 4 1 w11.heap.size #[.int .i64 pk, .int .i64 pn, .string pt, .slice a1 M c1] rfl (Nat.le_refl _) rfl (by decide)))
                  clear S17
                  obtain ⟨g3, hg⟩ : ∃ g', g' = w11.heap.size := ⟨_, rfl⟩
                  rw [← hg] at S18 ⊢
                  clear hg
                  generalize w11.alloc (.cells #[.int .i64 pk, .int .i64 pn, .string pt, .slice a1 M c1] 40) = w12 at S18 ⊢
                  refine hK.out _ _ ⟨Bag.cell_at S18.out 1 rfl 0 rfl, Bag.cell_at S18.out 1 rfl 1 rfl, Bag.cell_at S18.out 1 rfl 2 rfl, Bag.cell_at S18.out 2 rfl 0 rfl, (HK.out _ S18.out.old).1, (HK.out _ S18.out.old).2.1, (HK.out _ S18.out.old).2.2.1, (HK.out _ S18.out.old).2.2.2⟩ (fun hS => ?_)
                  clear hK K
                  try simp only [zp0, zp1, zp2, zp3, zp4]
                  refine Reg.one_op (i := 6) rfl (by kernel_rfl) (fun K hK => ?_)
                  refine Sv.step_append_s S18.out 7 rfl rfl _ _ 24 (by rfl) i0 (.agg #[.int .i64 0, .int .i64 0, .string ⟨#[]⟩, .slice none 0 0]) 56 Try.underlying24 HI.out.1 HI.out.2.1 HI.out.2.2.1 HI.out.2.2.2 rfl (by omega) _ (by rfl) rfl _ _ 1 _ _ ([.int .i64 pk, .int .i64 pn, .string pt, .slice a1 M c1]) (by rfl) rfl ((Sv.own_at S18.out 9 rfl).reads) rfl (by intro u hu; simp at hu; rcases hu with rfl | rfl | rfl | rfl <;> rfl) (by unfold maxLen; omega) (by omega) ?_
                  intro a4' c4' w13 hA
                  have S19 := Lib.hid (show Sl.Sep w _ [L4.boxR w.heap.size 26 #[.string nm3, .slice (some ad) N c, .int .i64 au3], L4.boxR (w.heap.size + 1) 28 #[.int .i64 pk, .int .i64 pn, .string pt], L4.boxR (w.heap.size + 1 + 1) 31 #[.slice ra M rc], L4.boxR (w.heap.size + 1 + 1 + 1) 26 #[.string ⟨#[]⟩, .slice none 0 0, .int .i64 0], Sv.ownV 40 4 (some ⟨g9, 0, none⟩) c3 N (cellsI ys), L4.boxR g1 26 #[.string nm3, .slice (some ⟨g9, 0, none⟩) N c3, .int .i64 au3], Bag.bag (rowsI ys), Sv.ownV 40 4 a4' c4' (k + 1) (cellsI (ys.take k) ++ ([.int .i64 pk, .int .i64 pn, .string pt, .slice a1 M c1])), Sv.ownV 102 2 a1 c1 M (cellsF rl), Sv.ownV 40 4 (some ⟨g3, 0, none⟩) 1 1 ([.int .i64 pk, .int .i64 pn, .string pt, .slice a1 M c1])] from hA)
                  clear S18
                  clear hA
                  refine hK.out _ _ ⟨Bag.cell_at S19.out 1 rfl 0 rfl, Bag.cell_at S19.out 1 rfl 1 rfl, Bag.cell_at S19.out 1 rfl 2 rfl, Bag.cell_at S19.out 2 rfl 0 rfl, (HK.out _ S19.out.old).1, (HK.out _ S19.out.old).2.1, (HK.out _ S19.out.old).2.2.1, (HK.out _ S19.out.old).2.2.2⟩ (fun hS => ?_)
                  clear hK K
                  try simp only [zp0, zp1, zp2, zp3, zp4]
                  refine tk 7 rfl ?_
                  try simp only [zp0, zp1, zp2, zp3, zp4]
                  refine wpAnyH_done (by kernel_rfl) ?_ _
                  have f0 : World.cell? _ ⟨w.heap.size, 0, none⟩ = some (.string nm3) := Bag.cell_at S19.out 0 rfl 0 rfl
                  have f1 : World.cell? _ ⟨w.heap.size, 1, none⟩ = some (.slice (some ad) N c) := Bag.cell_at S19.out 0 rfl 1 rfl
                  have f2 : World.cell? _ ⟨w.heap.size, 2, none⟩ = some (.int .i64 au3) := Bag.cell_at S19.out 0 rfl 2 rfl
                  have f3 : World.cell? _ ⟨w.heap.size + 1, 0, none⟩ = some (.int .i64 pk) := Bag.cell_at S19.out 1 rfl 0 rfl
                  have f4 : World.cell? _ ⟨w.heap.size + 1, 1, none⟩ = some (.int .i64 pn) := Bag.cell_at S19.out 1 rfl 1 rfl
                  have f5 : World.cell? _ ⟨w.heap.size + 1, 2, none⟩ = some (.string pt) := Bag.cell_at S19.out 1 rfl 2 rfl
                  have f6 : World.cell? _ ⟨w.heap.size + 1 + 1, 0, none⟩ = some (.slice ra M rc) := Bag.cell_at S19.out 2 rfl 0 rfl
                  have f7 : World.cell? _ ⟨w.heap.size + 1 + 1 + 1, 0, none⟩ = some (.string ⟨#[]⟩) := Bag.cell_at S19.out 3 rfl 0 rfl
                  have f8 : World.cell? _ ⟨w.heap.size + 1 + 1 + 1, 1, none⟩ = some (.slice none 0 0) := Bag.cell_at S19.out 3 rfl 1 rfl
                  have f9 : World.cell? _ ⟨w.heap.size + 1 + 1 + 1, 2, none⟩ = some (.int .i64 0) := Bag.cell_at S19.out 3 rfl 2 rfl
                  have f10 : World.cell? _ ⟨g1, 0, none⟩ = some (.string nm3) := Bag.cell_at S19.out 5 rfl 0 rfl
                  have f11 : World.cell? _ ⟨g1, 1, none⟩ = some (.slice (some ⟨g9, 0, none⟩) N c3) := Bag.cell_at S19.out 5 rfl 1 rfl
                  have f12 : World.cell? _ ⟨g1, 2, none⟩ = some (.int .i64 au3) := Bag.cell_at S19.out 5 rfl 2 rfl
                  have f13 : World.cell? _ (ad.add (k * 4)) = some (.int .i64 kd) := (HK.out _ S19.out.old).1
                  have f14 : World.cell? _ (⟨(ad.add (k * 4)).block, (ad.add (k * 4)).off + 1, none⟩) = some (.int .i64 n) := (HK.out _ S19.out.old).2.1
                  have f15 : World.cell? _ (⟨(ad.add (k * 4)).block, (ad.add (k * 4)).off + 2, none⟩) = some (.string t) := (HK.out _ S19.out.old).2.2.1
                  have f16 : World.cell? _ (⟨(ad.add (k * 4)).block, (ad.add (k * 4)).off + 3, none⟩) = some (.slice ia l.length ic) := (HK.out _ S19.out.old).2.2.2
                  clear f0 f1 f2 f3 f4 f5 f6 f7 f8 f9 f10 f11 f12 f13 f14 f15 f16
                  have f0 : World.cell? _ ⟨g1, 0, none⟩ = some (.string nm3) := Bag.cell_at S19.out 5 rfl 0 rfl
                  have f1 : World.cell? _ ⟨g1, 1, none⟩ = some (.slice (some ⟨g9, 0, none⟩) N c3) := Bag.cell_at S19.out 5 rfl 1 rfl
                  have f2 : World.cell? _ ⟨g1, 2, none⟩ = some (.int .i64 au3) := Bag.cell_at S19.out 5 rfl 2 rfl
                  have f3 : World.cell? _ (ad.add (k * 4)) = some (.int .i64 kd) := (HK.out _ S19.out.old).1
                  have f4 : World.cell? _ (⟨(ad.add (k * 4)).block, (ad.add (k * 4)).off + 1, none⟩) = some (.int .i64 n) := (HK.out _ S19.out.old).2.1
                  have f5 : World.cell? _ (⟨(ad.add (k * 4)).block, (ad.add (k * 4)).off + 2, none⟩) = some (.string t) := (HK.out _ S19.out.old).2.2.1
                  have f6 : World.cell? _ (⟨(ad.add (k * 4)).block, (ad.add (k * 4)).off + 3, none⟩) = some (.slice ia l.length ic) := (HK.out _ S19.out.old).2.2.2
                  have hcl := (Sv.own_at S19.out 4 rfl).cap
                  have hnl : ys.length ≤ c3 := by omega
                  have HNL := Lib.hid hnl
                  clear hnl hcl
                  have hkN : (k : Int) ≤ (N : Int) := by omega
                  have hNc : (N : Int) ≤ (c3 : Int) := by have := HNL.out; omega
                  go_upto_region 16 with (at_builtin; refine L5.wpList_append_v S19.out 7 rfl rfl _ _ 24 (by rfl) i0 (.agg #[.int .i64 0, .int .i64 0, .string ⟨#[]⟩, .slice none 0 0]) 56 Try.underlying24 HI.out.1 HI.out.2.1 HI.out.2.2.1 HI.out.2.2.2 rfl (by omega) _ (by rfl) rfl _ _ (N - k) _ _ (cellsI (ys.drop k)) (by rfl) rfl (reads_rest2 (Sv.own_at S19.out 4 rfl).reads k) (by rw [cellsI_length, List.length_drop, hyl]) (cellsI_one _) (by unfold maxLen; omega) (by omega) ?_; intro a5' c5' w14 hA; have SA := Lib.hid (show Sl.Sep w w14 [L4.boxR w.heap.size 26 #[.string nm3, .slice (some ad) N c, .int .i64 au3], L4.boxR (w.heap.size + 1) 28 #[.int .i64 pk, .int .i64 pn, .string pt], L4.boxR (w.heap.size + 1 + 1) 31 #[.slice ra M rc], L4.boxR (w.heap.size + 1 + 1 + 1) 26 #[.string ⟨#[]⟩, .slice none 0 0, .int .i64 0], Sv.ownV 40 4 (some ⟨g9, 0, none⟩) c3 N (cellsI ys), L4.boxR g1 26 #[.string nm3, .slice (some ⟨g9, 0, none⟩) N c3, .int .i64 au3], Bag.bag (rowsI ys), Sv.ownV 40 4 (a5') (c5') (k + 1 + (N - k)) ((cellsI (ys.take k) ++ ([.int .i64 pk, .int .i64 pn, .string pt, .slice a1 M c1])) ++ cellsI (ys.drop k)), Sv.ownV 102 2 a1 c1 M (cellsF rl), Sv.ownV 40 4 (some ⟨g3, 0, none⟩) 1 1 ([.int .i64 pk, .int .i64 pn, .string pt, .slice a1 M c1])] from hA); clear hA; have f0 : World.cell? _ ⟨g1, 1, none⟩ = some (.slice (some ⟨g9, 0, none⟩) N c3) := Bag.cell_at SA.out 5 rfl 1 rfl; have z1 := Bag.free_at SA.out 5 rfl 1)
                  have S20 := SA
                  clear SA S19 f0 z1
                  have S21 := Lib.hid (show Sl.Sep w _ [L4.boxR w.heap.size 26 #[.string nm3, .slice (some ad) N c, .int .i64 au3], L4.boxR (w.heap.size + 1) 28 #[.int .i64 pk, .int .i64 pn, .string pt], L4.boxR (w.heap.size + 1 + 1) 31 #[.slice ra M rc], L4.boxR (w.heap.size + 1 + 1 + 1) 26 #[.string ⟨#[]⟩, .slice none 0 0, .int .i64 0], Sv.ownV 40 4 (some ⟨g9, 0, none⟩) c3 N (cellsI ys), L4.boxR g1 26 #[.string nm3, .slice a5' (k + 1 + (N - k)) c5', .int .i64 au3], Bag.bag (rowsI ys), Sv.ownV 40 4 a5' c5' (k + 1 + (N - k)) ((cellsI (ys.take k) ++ ([.int .i64 pk, .int .i64 pn, .string pt, .slice a1 M c1])) ++ cellsI (ys.drop k)), Sv.ownV 102 2 a1 c1 M (cellsF rl), Sv.ownV 40 4 (some ⟨g3, 0, none⟩) 1 1 ([.int .i64 pk, .int .i64 pn, .string pt, .slice a1 M c1])] from L5.put_box5 (S20.out) 5 rfl 1 (.slice a5' (k + 1 + (N - k)) c5'))
                  clear S20
                  have S22 := Lib.hid (show Sl.Sep w _ [L4.boxR w.heap.size 26 #[.string nm3, .slice (some ad) N c, .int .i64 au3], L4.boxR (w.heap.size + 1) 28 #[.int .i64 pk, .int .i64 pn, .string pt], L4.boxR (w.heap.size + 1 + 1) 31 #[.slice ra M rc], L4.boxR (w.heap.size + 1 + 1 + 1) 26 #[.string ⟨#[]⟩, .slice none 0 0, .int .i64 0], L4.boxR g1 26 #[.string nm3, .slice a5' (k + 1 + (N - k)) c5', .int .i64 au3], Bag.bag (rowsI ys), Sv.ownV 40 4 a5' c5' (k + 1 + (N - k)) ((cellsI (ys.take k) ++ ([.int .i64 pk, .int .i64 pn, .string pt, .slice a1 M c1])) ++ cellsI (ys.drop k)), Sv.ownV 102 2 a1 c1 M (cellsF rl)] from Bag.take S21.out [0, 1, 2, 3, 5, 6, 7, 8] (by rfl) (by decide))
                  clear S21
                  obtain ⟨ba, hba⟩ : ∃ b, L1.inB pn (au3 + 1) 1000000 = b := ⟨_, rfl⟩
                  have HIA := fun w => L1.l1In_any pn (au3 + 1) 1000000 w
                  rw [hba] at HIA
                  replace HIA := Lib.hid HIA
                  have hau0 : 0 ≤ au3 := HAU.out.1
                  have hau1 : au3 ≤ 1000000 := HAU.out.2
                  have HBA := Lib.hid hba
                  clear hba
                  have f0 : World.cell? _ ⟨w.heap.size, 0, none⟩ = some (.string nm3) := Bag.cell_at S22.out 0 rfl 0 rfl
                  have f1 : World.cell? _ ⟨w.heap.size, 1, none⟩ = some (.slice (some ad) N c) := Bag.cell_at S22.out 0 rfl 1 rfl
                  have f2 : World.cell? _ ⟨w.heap.size, 2, none⟩ = some (.int .i64 au3) := Bag.cell_at S22.out 0 rfl 2 rfl
                  have f3 : World.cell? _ ⟨w.heap.size + 1, 0, none⟩ = some (.int .i64 pk) := Bag.cell_at S22.out 1 rfl 0 rfl
                  have f4 : World.cell? _ ⟨w.heap.size + 1, 1, none⟩ = some (.int .i64 pn) := Bag.cell_at S22.out 1 rfl 1 rfl
                  have f5 : World.cell? _ ⟨w.heap.size + 1, 2, none⟩ = some (.string pt) := Bag.cell_at S22.out 1 rfl 2 rfl
                  have f6 : World.cell? _ ⟨w.heap.size + 1 + 1, 0, none⟩ = some (.slice ra M rc) := Bag.cell_at S22.out 2 rfl 0 rfl
                  have f7 : World.cell? _ ⟨w.heap.size + 1 + 1 + 1, 0, none⟩ = some (.string ⟨#[]⟩) := Bag.cell_at S22.out 3 rfl 0 rfl
                  have f8 : World.cell? _ ⟨w.heap.size + 1 + 1 + 1, 1, none⟩ = some (.slice none 0 0) := Bag.cell_at S22.out 3 rfl 1 rfl
                  have f9 : World.cell? _ ⟨w.heap.size + 1 + 1 + 1, 2, none⟩ = some (.int .i64 0) := Bag.cell_at S22.out 3 rfl 2 rfl
                  have f10 : World.cell? _ ⟨g1, 0, none⟩ = some (.string nm3) := Bag.cell_at S22.out 4 rfl 0 rfl
                  have f11 : World.cell? _ ⟨g1, 1, none⟩ = some (.slice a5' (k + 1 + (N - k)) c5') := Bag.cell_at S22.out 4 rfl 1 rfl
                  have f12 : World.cell? _ ⟨g1, 2, none⟩ = some (.int .i64 au3) := Bag.cell_at S22.out 4 rfl 2 rfl
                  have f13 : World.cell? _ (ad.add (k * 4)) = some (.int .i64 kd) := (HK.out _ S22.out.old).1
                  have f14 : World.cell? _ (⟨(ad.add (k * 4)).block, (ad.add (k * 4)).off + 1, none⟩) = some (.int .i64 n) := (HK.out _ S22.out.old).2.1
                  have f15 : World.cell? _ (⟨(ad.add (k * 4)).block, (ad.add (k * 4)).off + 2, none⟩) = some (.string t) := (HK.out _ S22.out.old).2.2.1
                  have f16 : World.cell? _ (⟨(ad.add (k * 4)).block, (ad.add (k * 4)).off + 3, none⟩) = some (.slice ia l.length ic) := (HK.out _ S22.out.old).2.2.2
                  by_cases hk1 : pk = 1
                  · subst hk1
                    cases ba with
                    | false =>
                      go_wp2_with fail
                      go_at_call 69
                      refine (HIA.out _).mono ?_
                      rintro e w15 ⟨rfl, rfl⟩
                      clear f0 f1 f2 f3 f4 f5 f6 f7 f8 f9 f10 f11 f12 f13 f14 f15 f16
                      have f0 : World.cell? _ ⟨w.heap.size, 0, none⟩ = some (.string nm3) := Bag.cell_at S22.out 0 rfl 0 rfl
                      have f1 : World.cell? _ ⟨w.heap.size, 1, none⟩ = some (.slice (some ad) N c) := Bag.cell_at S22.out 0 rfl 1 rfl
                      have f2 : World.cell? _ ⟨w.heap.size, 2, none⟩ = some (.int .i64 au3) := Bag.cell_at S22.out 0 rfl 2 rfl
                      have f3 : World.cell? _ ⟨w.heap.size + 1, 0, none⟩ = some (.int .i64 1) := Bag.cell_at S22.out 1 rfl 0 rfl
                      have f4 : World.cell? _ ⟨w.heap.size + 1, 1, none⟩ = some (.int .i64 pn) := Bag.cell_at S22.out 1 rfl 1 rfl
                      have f5 : World.cell? _ ⟨w.heap.size + 1, 2, none⟩ = some (.string pt) := Bag.cell_at S22.out 1 rfl 2 rfl
                      have f6 : World.cell? _ ⟨w.heap.size + 1 + 1, 0, none⟩ = some (.slice ra M rc) := Bag.cell_at S22.out 2 rfl 0 rfl
                      have f7 : World.cell? _ ⟨w.heap.size + 1 + 1 + 1, 0, none⟩ = some (.string ⟨#[]⟩) := Bag.cell_at S22.out 3 rfl 0 rfl
                      have f8 : World.cell? _ ⟨w.heap.size + 1 + 1 + 1, 1, none⟩ = some (.slice none 0 0) := Bag.cell_at S22.out 3 rfl 1 rfl
                      have f9 : World.cell? _ ⟨w.heap.size + 1 + 1 + 1, 2, none⟩ = some (.int .i64 0) := Bag.cell_at S22.out 3 rfl 2 rfl
                      have f10 : World.cell? _ ⟨g1, 0, none⟩ = some (.string nm3) := Bag.cell_at S22.out 4 rfl 0 rfl
                      have f11 : World.cell? _ ⟨g1, 1, none⟩ = some (.slice a5' (k + 1 + (N - k)) c5') := Bag.cell_at S22.out 4 rfl 1 rfl
                      have f12 : World.cell? _ ⟨g1, 2, none⟩ = some (.int .i64 au3) := Bag.cell_at S22.out 4 rfl 2 rfl
                      have f13 : World.cell? _ (ad.add (k * 4)) = some (.int .i64 kd) := (HK.out _ S22.out.old).1
                      have f14 : World.cell? _ (⟨(ad.add (k * 4)).block, (ad.add (k * 4)).off + 1, none⟩) = some (.int .i64 n) := (HK.out _ S22.out.old).2.1
                      have f15 : World.cell? _ (⟨(ad.add (k * 4)).block, (ad.add (k * 4)).off + 2, none⟩) = some (.string t) := (HK.out _ S22.out.old).2.2.1
                      have f16 : World.cell? _ (⟨(ad.add (k * 4)).block, (ad.add (k * 4)).off + 3, none⟩) = some (.slice ia l.length ic) := (HK.out _ S22.out.old).2.2.2
                      have z0 := Bag.free_at S22.out 3 rfl 0
                      have z1 := Bag.free_at S22.out 3 rfl 1
                      have z2 := Bag.free_at S22.out 3 rfl 2
                      go_wp2_with fail
                      clear f0 f1 f2 f3 f4 f5 f6 f7 f8 f9 f10 f11 f12 f13 f14 f15 f16 z0 z1 z2
                      have S23 := Lib.hid (show Sl.Sep w _ [L4.boxR w.heap.size 26 #[.string nm3, .slice (some ad) N c, .int .i64 au3], L4.boxR (w.heap.size + 1) 28 #[.int .i64 1, .int .i64 pn, .string pt], L4.boxR (w.heap.size + 1 + 1) 31 #[.slice ra M rc], L4.boxR (w.heap.size + 1 + 1 + 1) 26 #[.string nm3, .slice a5' (k + 1 + (N - k)) c5', .int .i64 au3], L4.boxR g1 26 #[.string nm3, .slice a5' (k + 1 + (N - k)) c5', .int .i64 au3], Bag.bag (rowsI ys), Sv.ownV 40 4 a5' c5' (k + 1 + (N - k)) ((cellsI (ys.take k) ++ ([.int .i64 1, .int .i64 pn, .string pt, .slice a1 M c1])) ++ cellsI (ys.drop k)), Sv.ownV 102 2 a1 c1 M (cellsF rl)] from L5.put_box5 (L5.put_box5 (L5.put_box5 (S22.out) 3 rfl 0 (.string nm3)) 3 rfl 1 (.slice a5' (k + 1 + (N - k)) c5')) 3 rfl 2 (.int .i64 au3))
                      clear S22
                      have f0 : World.cell? _ ⟨w.heap.size + 1 + 1 + 1, 0, none⟩ = some (.string nm3) := Bag.cell_at S23.out 3 rfl 0 rfl
                      have f1 : World.cell? _ ⟨w.heap.size + 1 + 1 + 1, 1, none⟩ = some (.slice a5' (k + 1 + (N - k)) c5') := Bag.cell_at S23.out 3 rfl 1 rfl
                      have f2 : World.cell? _ ⟨w.heap.size + 1 + 1 + 1, 2, none⟩ = some (.int .i64 au3) := Bag.cell_at S23.out 3 rfl 2 rfl
                      have f3 : World.cell? _ (ad.add (k * 4)) = some (.int .i64 kd) := (HK.out _ S23.out.old).1
                      have f4 : World.cell? _ (⟨(ad.add (k * 4)).block, (ad.add (k * 4)).off + 1, none⟩) = some (.int .i64 n) := (HK.out _ S23.out.old).2.1
                      have f5 : World.cell? _ (⟨(ad.add (k * 4)).block, (ad.add (k * 4)).off + 2, none⟩) = some (.string t) := (HK.out _ S23.out.old).2.2.1
                      have f6 : World.cell? _ (⟨(ad.add (k * 4)).block, (ad.add (k * 4)).off + 3, none⟩) = some (.slice ia l.length ic) := (HK.out _ S23.out.old).2.2.2
                      refine bodyPost_ret (v := .tuple #[.agg #[.string nm3, .slice a5' (k + 1 + (N - k)) c5', .int .i64 au3], .bool true]) (by simp [results, Try.results18, go_sem, *]) rfl ?_
                      clear f0 f1 f2 f3 f4 f5 f6
                      have HX9 := Lib.hid (show nextAuto au3 ⟨1, pn, pt⟩ = au3 from by unfold nextAuto; dsimp only; rw [HBA.out, Bool.and_false]; rfl)
                      have hM := HM.out
                      subst hM
                      have S90 := Lib.hid (Bag.bag_of_one S23.out 7 (r := (LI.mk ⟨1, pn, pt⟩ a1 c1 rl).row) rfl)
                      have S91 := Lib.hid (Bag.bag_join S90.out 5 7 (by decide) rfl rfl)
                      have S92 := Lib.hid (Bag.bag_perm S91.out 5 rfl (rowsI_ins ys k ⟨⟨1, pn, pt⟩, a1, c1, rl⟩))
                      have hlz : (ys.take k ++ ⟨⟨1, pn, pt⟩, a1, c1, rl⟩ :: ys.drop k).length = k + 1 + (N - k) := by rw [List.length_append, List.length_cons, List.length_take, List.length_drop]; omega
                      have hcz : cellsI (ys.take k ++ ⟨⟨1, pn, pt⟩, a1, c1, rl⟩ :: ys.drop k) = (cellsI (ys.take k) ++ ([.int .i64 1, .int .i64 pn, .string pt, .slice a1 rl.length c1])) ++ cellsI (ys.drop k) := by rw [cellsI_append, cellsI_cons]; simp
                      have S93 := Lib.hid (Bag.bag_of_one S92.out 6 (r := rowI a5' c5' (ys.take k ++ ⟨⟨1, pn, pt⟩, a1, c1, rl⟩ :: ys.drop k)) (by unfold RowS.res rowI; dsimp only; rw [hlz, hcz]; rfl))
                      have S94 := Lib.hid (Bag.bag_join S93.out 6 5 (by decide) rfl rfl)
                      refine ⟨⟨nm3, a5', c5', ys.take k ++ ⟨⟨1, pn, pt⟩, a1, c1, rl⟩ :: ys.drop k, au3⟩, ?_, ?_, ?_, S94.out.old⟩
                      · rw [HE.out]; unfold LS.v LS.cells; dsimp only; rw [hlz]
                      · rw [HE.out, HX9.out, HPOS.out]; unfold LS.con; dsimp only; rw [conI_ins, HCE.out]; rfl
                      · have h := Bag.bag_from S94.out 6 rfl
                        unfold LS.rows; exact h
                    | true =>
                      go_wp2_with fail
                      go_at_call 69
                      refine (HIA.out _).mono ?_
                      rintro e w15 ⟨rfl, rfl⟩
                      clear f0 f1 f2 f3 f4 f5 f6 f7 f8 f9 f10 f11 f12 f13 f14 f15 f16
                      have f0 : World.cell? _ ⟨w.heap.size, 0, none⟩ = some (.string nm3) := Bag.cell_at S22.out 0 rfl 0 rfl
                      have f1 : World.cell? _ ⟨w.heap.size, 1, none⟩ = some (.slice (some ad) N c) := Bag.cell_at S22.out 0 rfl 1 rfl
                      have f2 : World.cell? _ ⟨w.heap.size, 2, none⟩ = some (.int .i64 au3) := Bag.cell_at S22.out 0 rfl 2 rfl
                      have f3 : World.cell? _ ⟨w.heap.size + 1, 0, none⟩ = some (.int .i64 1) := Bag.cell_at S22.out 1 rfl 0 rfl
                      have f4 : World.cell? _ ⟨w.heap.size + 1, 1, none⟩ = some (.int .i64 pn) := Bag.cell_at S22.out 1 rfl 1 rfl
                      have f5 : World.cell? _ ⟨w.heap.size + 1, 2, none⟩ = some (.string pt) := Bag.cell_at S22.out 1 rfl 2 rfl
                      have f6 : World.cell? _ ⟨w.heap.size + 1 + 1, 0, none⟩ = some (.slice ra M rc) := Bag.cell_at S22.out 2 rfl 0 rfl
                      have f7 : World.cell? _ ⟨w.heap.size + 1 + 1 + 1, 0, none⟩ = some (.string ⟨#[]⟩) := Bag.cell_at S22.out 3 rfl 0 rfl
                      have f8 : World.cell? _ ⟨w.heap.size + 1 + 1 + 1, 1, none⟩ = some (.slice none 0 0) := Bag.cell_at S22.out 3 rfl 1 rfl
                      have f9 : World.cell? _ ⟨w.heap.size + 1 + 1 + 1, 2, none⟩ = some (.int .i64 0) := Bag.cell_at S22.out 3 rfl 2 rfl
                      have f10 : World.cell? _ ⟨g1, 0, none⟩ = some (.string nm3) := Bag.cell_at S22.out 4 rfl 0 rfl
                      have f11 : World.cell? _ ⟨g1, 1, none⟩ = some (.slice a5' (k + 1 + (N - k)) c5') := Bag.cell_at S22.out 4 rfl 1 rfl
                      have f12 : World.cell? _ ⟨g1, 2, none⟩ = some (.int .i64 au3) := Bag.cell_at S22.out 4 rfl 2 rfl
                      have f13 : World.cell? _ (ad.add (k * 4)) = some (.int .i64 kd) := (HK.out _ S22.out.old).1
                      have f14 : World.cell? _ (⟨(ad.add (k * 4)).block, (ad.add (k * 4)).off + 1, none⟩) = some (.int .i64 n) := (HK.out _ S22.out.old).2.1
                      have f15 : World.cell? _ (⟨(ad.add (k * 4)).block, (ad.add (k * 4)).off + 2, none⟩) = some (.string t) := (HK.out _ S22.out.old).2.2.1
                      have f16 : World.cell? _ (⟨(ad.add (k * 4)).block, (ad.add (k * 4)).off + 3, none⟩) = some (.slice ia l.length ic) := (HK.out _ S22.out.old).2.2.2
                      have z0 := Bag.free_at S22.out 4 rfl 0
                      have z1 := Bag.free_at S22.out 4 rfl 1
                      have z2 := Bag.free_at S22.out 4 rfl 2
                      go_upto_region 18 with fail
                      clear f0 f1 f2 f3 f4 f5 f6 f7 f8 f9 f10 f11 f12 f13 f14 f15 f16 z0 z1 z2
                      have S23 := Lib.hid (show Sl.Sep w _ [L4.boxR w.heap.size 26 #[.string nm3, .slice (some ad) N c, .int .i64 au3], L4.boxR (w.heap.size + 1) 28 #[.int .i64 1, .int .i64 pn, .string pt], L4.boxR (w.heap.size + 1 + 1) 31 #[.slice ra M rc], L4.boxR (w.heap.size + 1 + 1 + 1) 26 #[.string ⟨#[]⟩, .slice none 0 0, .int .i64 0], L4.boxR g1 26 #[.string nm3, .slice a5' (k + 1 + (N - k)) c5', .int .i64 pn], Bag.bag (rowsI ys), Sv.ownV 40 4 a5' c5' (k + 1 + (N - k)) ((cellsI (ys.take k) ++ ([.int .i64 1, .int .i64 pn, .string pt, .slice a1 M c1])) ++ cellsI (ys.drop k)), Sv.ownV 102 2 a1 c1 M (cellsF rl)] from L5.put_box5 (S22.out) 4 rfl 2 (.int .i64 pn))
                      clear S22
                      have f0 : World.cell? _ ⟨w.heap.size, 0, none⟩ = some (.string nm3) := Bag.cell_at S23.out 0 rfl 0 rfl
                      have f1 : World.cell? _ ⟨w.heap.size, 1, none⟩ = some (.slice (some ad) N c) := Bag.cell_at S23.out 0 rfl 1 rfl
                      have f2 : World.cell? _ ⟨w.heap.size, 2, none⟩ = some (.int .i64 au3) := Bag.cell_at S23.out 0 rfl 2 rfl
                      have f3 : World.cell? _ ⟨w.heap.size + 1, 0, none⟩ = some (.int .i64 1) := Bag.cell_at S23.out 1 rfl 0 rfl
                      have f4 : World.cell? _ ⟨w.heap.size + 1, 1, none⟩ = some (.int .i64 pn) := Bag.cell_at S23.out 1 rfl 1 rfl
                      have f5 : World.cell? _ ⟨w.heap.size + 1, 2, none⟩ = some (.string pt) := Bag.cell_at S23.out 1 rfl 2 rfl
                      have f6 : World.cell? _ ⟨w.heap.size + 1 + 1, 0, none⟩ = some (.slice ra M rc) := Bag.cell_at S23.out 2 rfl 0 rfl
                      have f7 : World.cell? _ ⟨w.heap.size + 1 + 1 + 1, 0, none⟩ = some (.string ⟨#[]⟩) := Bag.cell_at S23.out 3 rfl 0 rfl
                      have f8 : World.cell? _ ⟨w.heap.size + 1 + 1 + 1, 1, none⟩ = some (.slice none 0 0) := Bag.cell_at S23.out 3 rfl 1 rfl
                      have f9 : World.cell? _ ⟨w.heap.size + 1 + 1 + 1, 2, none⟩ = some (.int .i64 0) := Bag.cell_at S23.out 3 rfl 2 rfl
                      have f10 : World.cell? _ ⟨g1, 0, none⟩ = some (.string nm3) := Bag.cell_at S23.out 4 rfl 0 rfl
                      have f11 : World.cell? _ ⟨g1, 1, none⟩ = some (.slice a5' (k + 1 + (N - k)) c5') := Bag.cell_at S23.out 4 rfl 1 rfl
                      have f12 : World.cell? _ ⟨g1, 2, none⟩ = some (.int .i64 pn) := Bag.cell_at S23.out 4 rfl 2 rfl
                      have f13 : World.cell? _ (ad.add (k * 4)) = some (.int .i64 kd) := (HK.out _ S23.out.old).1
                      have f14 : World.cell? _ (⟨(ad.add (k * 4)).block, (ad.add (k * 4)).off + 1, none⟩) = some (.int .i64 n) := (HK.out _ S23.out.old).2.1
                      have f15 : World.cell? _ (⟨(ad.add (k * 4)).block, (ad.add (k * 4)).off + 2, none⟩) = some (.string t) := (HK.out _ S23.out.old).2.2.1
                      have f16 : World.cell? _ (⟨(ad.add (k * 4)).block, (ad.add (k * 4)).off + 3, none⟩) = some (.slice ia l.length ic) := (HK.out _ S23.out.old).2.2.2
                      have z0 := Bag.free_at S23.out 3 rfl 0
                      have z1 := Bag.free_at S23.out 3 rfl 1
                      have z2 := Bag.free_at S23.out 3 rfl 2
                      go_wp2_with fail
                      clear f0 f1 f2 f3 f4 f5 f6 f7 f8 f9 f10 f11 f12 f13 f14 f15 f16 z0 z1 z2
                      have S24 := Lib.hid (show Sl.Sep w _ [L4.boxR w.heap.size 26 #[.string nm3, .slice (some ad) N c, .int .i64 au3], L4.boxR (w.heap.size + 1) 28 #[.int .i64 1, .int .i64 pn, .string pt], L4.boxR (w.heap.size + 1 + 1) 31 #[.slice ra M rc], L4.boxR (w.heap.size + 1 + 1 + 1) 26 #[.string nm3, .slice a5' (k + 1 + (N - k)) c5', .int .i64 pn], L4.boxR g1 26 #[.string nm3, .slice a5' (k + 1 + (N - k)) c5', .int .i64 pn], Bag.bag (rowsI ys), Sv.ownV 40 4 a5' c5' (k + 1 + (N - k)) ((cellsI (ys.take k) ++ ([.int .i64 1, .int .i64 pn, .string pt, .slice a1 M c1])) ++ cellsI (ys.drop k)), Sv.ownV 102 2 a1 c1 M (cellsF rl)] from L5.put_box5 (L5.put_box5 (L5.put_box5 (S23.out) 3 rfl 0 (.string nm3)) 3 rfl 1 (.slice a5' (k + 1 + (N - k)) c5')) 3 rfl 2 (.int .i64 pn))
                      clear S23
                      have f0 : World.cell? _ ⟨w.heap.size + 1 + 1 + 1, 0, none⟩ = some (.string nm3) := Bag.cell_at S24.out 3 rfl 0 rfl
                      have f1 : World.cell? _ ⟨w.heap.size + 1 + 1 + 1, 1, none⟩ = some (.slice a5' (k + 1 + (N - k)) c5') := Bag.cell_at S24.out 3 rfl 1 rfl
                      have f2 : World.cell? _ ⟨w.heap.size + 1 + 1 + 1, 2, none⟩ = some (.int .i64 pn) := Bag.cell_at S24.out 3 rfl 2 rfl
                      have f3 : World.cell? _ (ad.add (k * 4)) = some (.int .i64 kd) := (HK.out _ S24.out.old).1
                      have f4 : World.cell? _ (⟨(ad.add (k * 4)).block, (ad.add (k * 4)).off + 1, none⟩) = some (.int .i64 n) := (HK.out _ S24.out.old).2.1
                      have f5 : World.cell? _ (⟨(ad.add (k * 4)).block, (ad.add (k * 4)).off + 2, none⟩) = some (.string t) := (HK.out _ S24.out.old).2.2.1
                      have f6 : World.cell? _ (⟨(ad.add (k * 4)).block, (ad.add (k * 4)).off + 3, none⟩) = some (.slice ia l.length ic) := (HK.out _ S24.out.old).2.2.2
                      refine bodyPost_ret (v := .tuple #[.agg #[.string nm3, .slice a5' (k + 1 + (N - k)) c5', .int .i64 pn], .bool true]) (by simp [results, Try.results18, go_sem, *]) rfl ?_
                      clear f0 f1 f2 f3 f4 f5 f6
                      have HX9 := Lib.hid (show nextAuto au3 ⟨1, pn, pt⟩ = pn from by unfold nextAuto; dsimp only; rw [HBA.out]; rfl)
                      have hM := HM.out
                      subst hM
                      have S90 := Lib.hid (Bag.bag_of_one S24.out 7 (r := (LI.mk ⟨1, pn, pt⟩ a1 c1 rl).row) rfl)
                      have S91 := Lib.hid (Bag.bag_join S90.out 5 7 (by decide) rfl rfl)
                      have S92 := Lib.hid (Bag.bag_perm S91.out 5 rfl (rowsI_ins ys k ⟨⟨1, pn, pt⟩, a1, c1, rl⟩))
                      have hlz : (ys.take k ++ ⟨⟨1, pn, pt⟩, a1, c1, rl⟩ :: ys.drop k).length = k + 1 + (N - k) := by rw [List.length_append, List.length_cons, List.length_take, List.length_drop]; omega
                      have hcz : cellsI (ys.take k ++ ⟨⟨1, pn, pt⟩, a1, c1, rl⟩ :: ys.drop k) = (cellsI (ys.take k) ++ ([.int .i64 1, .int .i64 pn, .string pt, .slice a1 rl.length c1])) ++ cellsI (ys.drop k) := by rw [cellsI_append, cellsI_cons]; simp
                      have S93 := Lib.hid (Bag.bag_of_one S92.out 6 (r := rowI a5' c5' (ys.take k ++ ⟨⟨1, pn, pt⟩, a1, c1, rl⟩ :: ys.drop k)) (by unfold RowS.res rowI; dsimp only; rw [hlz, hcz]; rfl))
                      have S94 := Lib.hid (Bag.bag_join S93.out 6 5 (by decide) rfl rfl)
                      refine ⟨⟨nm3, a5', c5', ys.take k ++ ⟨⟨1, pn, pt⟩, a1, c1, rl⟩ :: ys.drop k, pn⟩, ?_, ?_, ?_, S94.out.old⟩
                      · rw [HE.out]; unfold LS.v LS.cells; dsimp only; rw [hlz]
                      · rw [HE.out, HX9.out, HPOS.out]; unfold LS.con; dsimp only; rw [conI_ins, HCE.out]; rfl
                      · have h := Bag.bag_from S94.out 6 rfl
                        unfold LS.rows; exact h
                  · have hk2 : (pk == 1) = false := by simpa using hk1
                    clear f0 f1 f2 f3 f4 f5 f6 f7 f8 f9 f10 f11 f12 f13 f14 f15 f16
                    have f0 : World.cell? _ ⟨w.heap.size, 0, none⟩ = some (.string nm3) := Bag.cell_at S22.out 0 rfl 0 rfl
                    have f1 : World.cell? _ ⟨w.heap.size, 1, none⟩ = some (.slice (some ad) N c) := Bag.cell_at S22.out 0 rfl 1 rfl
                    have f2 : World.cell? _ ⟨w.heap.size, 2, none⟩ = some (.int .i64 au3) := Bag.cell_at S22.out 0 rfl 2 rfl
                    have f3 : World.cell? _ ⟨w.heap.size + 1, 0, none⟩ = some (.int .i64 pk) := Bag.cell_at S22.out 1 rfl 0 rfl
                    have f4 : World.cell? _ ⟨w.heap.size + 1, 1, none⟩ = some (.int .i64 pn) := Bag.cell_at S22.out 1 rfl 1 rfl
                    have f5 : World.cell? _ ⟨w.heap.size + 1, 2, none⟩ = some (.string pt) := Bag.cell_at S22.out 1 rfl 2 rfl
                    have f6 : World.cell? _ ⟨w.heap.size + 1 + 1, 0, none⟩ = some (.slice ra M rc) := Bag.cell_at S22.out 2 rfl 0 rfl
                    have f7 : World.cell? _ ⟨w.heap.size + 1 + 1 + 1, 0, none⟩ = some (.string ⟨#[]⟩) := Bag.cell_at S22.out 3 rfl 0 rfl
                    have f8 : World.cell? _ ⟨w.heap.size + 1 + 1 + 1, 1, none⟩ = some (.slice none 0 0) := Bag.cell_at S22.out 3 rfl 1 rfl
                    have f9 : World.cell? _ ⟨w.heap.size + 1 + 1 + 1, 2, none⟩ = some (.int .i64 0) := Bag.cell_at S22.out 3 rfl 2 rfl
                    have f10 : World.cell? _ ⟨g1, 0, none⟩ = some (.string nm3) := Bag.cell_at S22.out 4 rfl 0 rfl
                    have f11 : World.cell? _ ⟨g1, 1, none⟩ = some (.slice a5' (k + 1 + (N - k)) c5') := Bag.cell_at S22.out 4 rfl 1 rfl
                    have f12 : World.cell? _ ⟨g1, 2, none⟩ = some (.int .i64 au3) := Bag.cell_at S22.out 4 rfl 2 rfl
                    have f13 : World.cell? _ (ad.add (k * 4)) = some (.int .i64 kd) := (HK.out _ S22.out.old).1
                    have f14 : World.cell? _ (⟨(ad.add (k * 4)).block, (ad.add (k * 4)).off + 1, none⟩) = some (.int .i64 n) := (HK.out _ S22.out.old).2.1
                    have f15 : World.cell? _ (⟨(ad.add (k * 4)).block, (ad.add (k * 4)).off + 2, none⟩) = some (.string t) := (HK.out _ S22.out.old).2.2.1
                    have f16 : World.cell? _ (⟨(ad.add (k * 4)).block, (ad.add (k * 4)).off + 3, none⟩) = some (.slice ia l.length ic) := (HK.out _ S22.out.old).2.2.2
                    have z0 := Bag.free_at S22.out 3 rfl 0
                    have z1 := Bag.free_at S22.out 3 rfl 1
                    have z2 := Bag.free_at S22.out 3 rfl 2
                    go_wp2_with fail
                    clear f0 f1 f2 f3 f4 f5 f6 f7 f8 f9 f10 f11 f12 f13 f14 f15 f16 z0 z1 z2
                    have S23 := Lib.hid (show Sl.Sep w _ [L4.boxR w.heap.size 26 #[.string nm3, .slice (some ad) N c, .int .i64 au3], L4.boxR (w.heap.size + 1) 28 #[.int .i64 pk, .int .i64 pn, .string pt], L4.boxR (w.heap.size + 1 + 1) 31 #[.slice ra M rc], L4.boxR (w.heap.size + 1 + 1 + 1) 26 #[.string nm3, .slice a5' (k + 1 + (N - k)) c5', .int .i64 au3], L4.boxR g1 26 #[.string nm3, .slice a5' (k + 1 + (N - k)) c5', .int .i64 au3], Bag.bag (rowsI ys), Sv.ownV 40 4 a5' c5' (k + 1 + (N - k)) ((cellsI (ys.take k) ++ ([.int .i64 pk, .int .i64 pn, .string pt, .slice a1 M c1])) ++ cellsI (ys.drop k)), Sv.ownV 102 2 a1 c1 M (cellsF rl)] from L5.put_box5 (L5.put_box5 (L5.put_box5 (S22.out) 3 rfl 0 (.string nm3)) 3 rfl 1 (.slice a5' (k + 1 + (N - k)) c5')) 3 rfl 2 (.int .i64 au3))
                    clear S22
                    have f0 : World.cell? _ ⟨w.heap.size + 1 + 1 + 1, 0, none⟩ = some (.string nm3) := Bag.cell_at S23.out 3 rfl 0 rfl
                    have f1 : World.cell? _ ⟨w.heap.size + 1 + 1 + 1, 1, none⟩ = some (.slice a5' (k + 1 + (N - k)) c5') := Bag.cell_at S23.out 3 rfl 1 rfl
                    have f2 : World.cell? _ ⟨w.heap.size + 1 + 1 + 1, 2, none⟩ = some (.int .i64 au3) := Bag.cell_at S23.out 3 rfl 2 rfl
                    have f3 : World.cell? _ (ad.add (k * 4)) = some (.int .i64 kd) := (HK.out _ S23.out.old).1
                    have f4 : World.cell? _ (⟨(ad.add (k * 4)).block, (ad.add (k * 4)).off + 1, none⟩) = some (.int .i64 n) := (HK.out _ S23.out.old).2.1
                    have f5 : World.cell? _ (⟨(ad.add (k * 4)).block, (ad.add (k * 4)).off + 2, none⟩) = some (.string t) := (HK.out _ S23.out.old).2.2.1
                    have f6 : World.cell? _ (⟨(ad.add (k * 4)).block, (ad.add (k * 4)).off + 3, none⟩) = some (.slice ia l.length ic) := (HK.out _ S23.out.old).2.2.2
                    refine bodyPost_ret (v := .tuple #[.agg #[.string nm3, .slice a5' (k + 1 + (N - k)) c5', .int .i64 au3], .bool true]) (by simp [results, Try.results18, go_sem, *]) rfl ?_
                    clear f0 f1 f2 f3 f4 f5 f6
                    have HX9 := Lib.hid (show nextAuto au3 ⟨pk, pn, pt⟩ = au3 from by unfold nextAuto; dsimp only; rw [hk2]; rfl)
                    have hM := HM.out
                    subst hM
                    have S90 := Lib.hid (Bag.bag_of_one S23.out 7 (r := (LI.mk ⟨pk, pn, pt⟩ a1 c1 rl).row) rfl)
                    have S91 := Lib.hid (Bag.bag_join S90.out 5 7 (by decide) rfl rfl)
                    have S92 := Lib.hid (Bag.bag_perm S91.out 5 rfl (rowsI_ins ys k ⟨⟨pk, pn, pt⟩, a1, c1, rl⟩))
                    have hlz : (ys.take k ++ ⟨⟨pk, pn, pt⟩, a1, c1, rl⟩ :: ys.drop k).length = k + 1 + (N - k) := by rw [List.length_append, List.length_cons, List.length_take, List.length_drop]; omega
                    have hcz : cellsI (ys.take k ++ ⟨⟨pk, pn, pt⟩, a1, c1, rl⟩ :: ys.drop k) = (cellsI (ys.take k) ++ ([.int .i64 pk, .int .i64 pn, .string pt, .slice a1 rl.length c1])) ++ cellsI (ys.drop k) := by rw [cellsI_append, cellsI_cons]; simp
                    have S93 := Lib.hid (Bag.bag_of_one S92.out 6 (r := rowI a5' c5' (ys.take k ++ ⟨⟨pk, pn, pt⟩, a1, c1, rl⟩ :: ys.drop k)) (by unfold RowS.res rowI; dsimp only; rw [hlz, hcz]; rfl))
                    have S94 := Lib.hid (Bag.bag_join S93.out 6 5 (by decide) rfl rfl)
                    refine ⟨⟨nm3, a5', c5', ys.take k ++ ⟨⟨pk, pn, pt⟩, a1, c1, rl⟩ :: ys.drop k, au3⟩, ?_, ?_, ?_, S94.out.old⟩
                    · rw [HE.out]; unfold LS.v LS.cells; dsimp only; rw [hlz]
                    · rw [HE.out, HX9.out, HPOS.out]; unfold LS.con; dsimp only; rw [conI_ins, HCE.out]; rfl
                    · have h := Bag.bag_from S94.out 6 rfl
                      unfold LS.rows; exact h
              · skip
                have hge : ¬ (k : Int) < (N : Int) := hlt
                obtain rfl : k = N := by omega
                have HPOS := Lib.hid (posI_at (xs := conI xs) (k := ⟨pk, pn, pt⟩) k (by rw [conI_length]; have := HN.out; omega) HA.out (fun h => absurd h (by rw [conI_length]; have := HN.out; omega)))
                have f0 : World.cell? _ ⟨w.heap.size, 0, none⟩ = some (.string nm3) := Bag.cell_at S11.out 0 rfl 0 rfl
                have f1 : World.cell? _ ⟨w.heap.size, 1, none⟩ = some (.slice a k c) := Bag.cell_at S11.out 0 rfl 1 rfl
                have f2 : World.cell? _ ⟨w.heap.size, 2, none⟩ = some (.int .i64 au3) := Bag.cell_at S11.out 0 rfl 2 rfl
                have f3 : World.cell? _ ⟨w.heap.size + 1, 0, none⟩ = some (.int .i64 pk) := Bag.cell_at S11.out 1 rfl 0 rfl
                have f4 : World.cell? _ ⟨w.heap.size + 1, 1, none⟩ = some (.int .i64 pn) := Bag.cell_at S11.out 1 rfl 1 rfl
                have f5 : World.cell? _ ⟨w.heap.size + 1, 2, none⟩ = some (.string pt) := Bag.cell_at S11.out 1 rfl 2 rfl
                have f6 : World.cell? _ ⟨w.heap.size + 1 + 1, 0, none⟩ = some (.slice ra M rc) := Bag.cell_at S11.out 2 rfl 0 rfl
                have f7 : World.cell? _ ⟨w.heap.size + 1 + 1 + 1, 0, none⟩ = some (.string ⟨#[]⟩) := Bag.cell_at S11.out 3 rfl 0 rfl
                have f8 : World.cell? _ ⟨w.heap.size + 1 + 1 + 1, 1, none⟩ = some (.slice none 0 0) := Bag.cell_at S11.out 3 rfl 1 rfl
                have f9 : World.cell? _ ⟨w.heap.size + 1 + 1 + 1, 2, none⟩ = some (.int .i64 0) := Bag.cell_at S11.out 3 rfl 2 rfl
                have f10 : World.cell? _ ⟨g1, 0, none⟩ = some (.string nm3) := Bag.cell_at S11.out 5 rfl 0 rfl
                have f11 : World.cell? _ ⟨g1, 1, none⟩ = some (.slice a3 k c3) := Bag.cell_at S11.out 5 rfl 1 rfl
                have f12 : World.cell? _ ⟨g1, 2, none⟩ = some (.int .i64 au3) := Bag.cell_at S11.out 5 rfl 2 rfl
                go_upto_region 11 with fail
                clear f0 f1 f2 f3 f4 f5 f6 f7 f8 f9 f10 f11 f12
                refine wp_region_held_drew (S := (fun w' => World.cell? w' ⟨w.heap.size, 0, none⟩ = some (.string nm3) ∧ World.cell? w' ⟨w.heap.size, 1, none⟩ = some (.slice a k c) ∧ World.cell? w' ⟨w.heap.size, 2, none⟩ = some (.int .i64 au3) ∧ World.cell? w' ⟨w.heap.size + 1, 0, none⟩ = some (.int .i64 pk) ∧ World.cell? w' ⟨w.heap.size + 1, 1, none⟩ = some (.int .i64 pn) ∧ World.cell? w' ⟨w.heap.size + 1, 2, none⟩ = some (.string pt))) (by kernel_rfl) ⟨Bag.cell_at S11.out 0 rfl 0 rfl, Bag.cell_at S11.out 0 rfl 1 rfl, Bag.cell_at S11.out 0 rfl 2 rfl, Bag.cell_at S11.out 1 rfl 0 rfl, Bag.cell_at S11.out 1 rfl 1 rfl, Bag.cell_at S11.out 1 rfl 2 rfl⟩ (fun hS => ?_)
                have S12 := Lib.hid (show Sl.Sep w _ [L4.boxR w.heap.size 26 #[.string nm3, .slice a k c, .int .i64 au3], L4.boxR (w.heap.size + 1) 28 #[.int .i64 pk, .int .i64 pn, .string pt], L4.boxR (w.heap.size + 1 + 1) 31 #[.slice ra M rc], L4.boxR (w.heap.size + 1 + 1 + 1) 26 #[.string ⟨#[]⟩, .slice none 0 0, .int .i64 0], Sv.ownV 40 4 a3 c3 k (cellsI ys), L4.boxR g1 26 #[.string nm3, .slice a3 k c3, .int .i64 au3], Bag.bag (rowsI ys)] from Bag.drew1 S11.out)
                clear S11
                generalize World.drew _ = w7 at hS S12 ⊢
                refine tk 0 rfl ?_
                try simp only [zp0, zp1, zp2, zp3, zp4]
                refine tk 1 rfl ?_
                try simp only [zp0, zp1, zp2, zp3, zp4]
                refine tk 2 rfl ?_
                try simp only [zp0, zp1, zp2, zp3, zp4]
                refine tk 3 rfl ?_
                try simp only [zp0, zp1, zp2, zp3, zp4]
                refine tk 4 rfl ?_
                try simp only [zp0, zp1, zp2, zp3, zp4]
                refine tk 5 rfl ?_
                try simp only [zp0, zp1, zp2, zp3, zp4]
                refine sk 6 rfl ?_
                try simp only [zp0, zp1, zp2, zp3, zp4]
                refine sk 7 rfl ?_
                try simp only [zp0, zp1, zp2, zp3, zp4]
                refine sk 8 rfl ?_
                try simp only [zp0, zp1, zp2, zp3, zp4]
                refine sk 9 rfl ?_
                try simp only [zp0, zp1, zp2, zp3, zp4]
                refine sk 10 rfl ?_
                try simp only [zp0, zp1, zp2, zp3, zp4]
                refine sk 11 rfl ?_
                try simp only [zp0, zp1, zp2, zp3, zp4]
                refine sk 12 rfl ?_
                try simp only [zp0, zp1, zp2, zp3, zp4]
                refine Reg.skip_one (i := 13) rfl (by kernel_rfl) (by rfl) (by assumption) ?_
                try simp only [zp0, zp1, zp2, zp3, zp4]
                refine sk 14 rfl ?_
                try simp only [zp0, zp1, zp2, zp3, zp4]
                refine tk 15 rfl ?_
                try simp only [zp0, zp1, zp2, zp3, zp4]
                refine wpAnyH_done (by kernel_rfl) ?_ _
                have f0 : World.cell? _ ⟨w.heap.size, 0, none⟩ = some (.string nm3) := Bag.cell_at S12.out 0 rfl 0 rfl
                have f1 : World.cell? _ ⟨w.heap.size, 1, none⟩ = some (.slice a k c) := Bag.cell_at S12.out 0 rfl 1 rfl
                have f2 : World.cell? _ ⟨w.heap.size, 2, none⟩ = some (.int .i64 au3) := Bag.cell_at S12.out 0 rfl 2 rfl
                have f3 : World.cell? _ ⟨w.heap.size + 1, 0, none⟩ = some (.int .i64 pk) := Bag.cell_at S12.out 1 rfl 0 rfl
                have f4 : World.cell? _ ⟨w.heap.size + 1, 1, none⟩ = some (.int .i64 pn) := Bag.cell_at S12.out 1 rfl 1 rfl
                have f5 : World.cell? _ ⟨w.heap.size + 1, 2, none⟩ = some (.string pt) := Bag.cell_at S12.out 1 rfl 2 rfl
                have f6 : World.cell? _ ⟨w.heap.size + 1 + 1, 0, none⟩ = some (.slice ra M rc) := Bag.cell_at S12.out 2 rfl 0 rfl
                have f7 : World.cell? _ ⟨w.heap.size + 1 + 1 + 1, 0, none⟩ = some (.string ⟨#[]⟩) := Bag.cell_at S12.out 3 rfl 0 rfl
                have f8 : World.cell? _ ⟨w.heap.size + 1 + 1 + 1, 1, none⟩ = some (.slice none 0 0) := Bag.cell_at S12.out 3 rfl 1 rfl
                have f9 : World.cell? _ ⟨w.heap.size + 1 + 1 + 1, 2, none⟩ = some (.int .i64 0) := Bag.cell_at S12.out 3 rfl 2 rfl
                have f10 : World.cell? _ ⟨g1, 0, none⟩ = some (.string nm3) := Bag.cell_at S12.out 5 rfl 0 rfl
                have f11 : World.cell? _ ⟨g1, 1, none⟩ = some (.slice a3 k c3) := Bag.cell_at S12.out 5 rfl 1 rfl
                have f12 : World.cell? _ ⟨g1, 2, none⟩ = some (.int .i64 au3) := Bag.cell_at S12.out 5 rfl 2 rfl
                clear f0 f1 f2 f3 f4 f5 f6 f7 f8 f9 f10 f11 f12
                have hky : k ≤ ys.length := by omega
                have hck : (k : Int) ≤ (c3 : Int) := by have := (Sv.own_at S12.out 4 rfl).cap; omega
                have S13 := Lib.hid (show Sl.Sep w _ [L4.boxR w.heap.size 26 #[.string nm3, .slice a k c, .int .i64 au3], L4.boxR (w.heap.size + 1) 28 #[.int .i64 pk, .int .i64 pn, .string pt], L4.boxR (w.heap.size + 1 + 1) 31 #[.slice ra M rc], L4.boxR (w.heap.size + 1 + 1 + 1) 26 #[.string ⟨#[]⟩, .slice none 0 0, .int .i64 0], Sv.ownV 40 4 a3 c3 k (cellsI ys), L4.boxR g1 26 #[.string nm3, .slice a3 k c3, .int .i64 au3], Bag.bag (rowsI ys), Sv.ownV 40 4 (some ⟨w7.heap.size, 0, none⟩) 0 0 (cellsI [])] from Sv.push_own S12.out ((Below.refl _ _).alloc (Nat.le_refl _) _) (OwnV.madeAt w7 40 4 0 w7.heap.size #[] rfl (Nat.le_refl _) rfl (by decide)))
                clear S12
                have f0 : World.cell? _ ⟨g1, 0, none⟩ = some (.string nm3) := Bag.cell_at S13.out 5 rfl 0 rfl
                have f1 : World.cell? _ ⟨g1, 1, none⟩ = some (.slice a3 k c3) := Bag.cell_at S13.out 5 rfl 1 rfl
                have f2 : World.cell? _ ⟨g1, 2, none⟩ = some (.int .i64 au3) := Bag.cell_at S13.out 5 rfl 2 rfl
                go_wp2_with (at_builtin; refine L5.wpList_append_v S13.out 7 rfl rfl _ _ 24 (by rfl) i0 (.agg #[.int .i64 0, .int .i64 0, .string ⟨#[]⟩, .slice none 0 0]) 56 Try.underlying24 HI.out.1 HI.out.2.1 HI.out.2.2.1 HI.out.2.2.2 rfl (by omega) _ (by rfl) rfl _ _ k _ _ (cellsI (ys.take k)) (by rfl) rfl (reads_head (Sv.own_at S13.out 4 rfl).reads k) (by rw [cellsI_length, List.length_take, Nat.min_eq_left hky]) (cellsI_one _) (by unfold maxLen; omega) (by omega) ?_; intro a2' c2' w8 hA)
                clear f0 f1 f2
                have S14 := Lib.hid (show Sl.Sep w w8 [L4.boxR w.heap.size 26 #[.string nm3, .slice a k c, .int .i64 au3], L4.boxR (w.heap.size + 1) 28 #[.int .i64 pk, .int .i64 pn, .string pt], L4.boxR (w.heap.size + 1 + 1) 31 #[.slice ra M rc], L4.boxR (w.heap.size + 1 + 1 + 1) 26 #[.string ⟨#[]⟩, .slice none 0 0, .int .i64 0], Sv.ownV 40 4 a3 c3 k (cellsI ys), L4.boxR g1 26 #[.string nm3, .slice a3 k c3, .int .i64 au3], Bag.bag (rowsI ys), Sv.ownV 40 4 a2' c2' k (cellsI (ys.take k))] from (by have h := hA; rw [Nat.zero_add] at h; exact h))
                clear S13
                clear hA
                have f0 : World.cell? _ ⟨w.heap.size, 0, none⟩ = some (.string nm3) := Bag.cell_at S14.out 0 rfl 0 rfl
                have f1 : World.cell? _ ⟨w.heap.size, 1, none⟩ = some (.slice a k c) := Bag.cell_at S14.out 0 rfl 1 rfl
                have f2 : World.cell? _ ⟨w.heap.size, 2, none⟩ = some (.int .i64 au3) := Bag.cell_at S14.out 0 rfl 2 rfl
                have f3 : World.cell? _ ⟨w.heap.size + 1, 0, none⟩ = some (.int .i64 pk) := Bag.cell_at S14.out 1 rfl 0 rfl
                have f4 : World.cell? _ ⟨w.heap.size + 1, 1, none⟩ = some (.int .i64 pn) := Bag.cell_at S14.out 1 rfl 1 rfl
                have f5 : World.cell? _ ⟨w.heap.size + 1, 2, none⟩ = some (.string pt) := Bag.cell_at S14.out 1 rfl 2 rfl
                have f6 : World.cell? _ ⟨w.heap.size + 1 + 1, 0, none⟩ = some (.slice ra M rc) := Bag.cell_at S14.out 2 rfl 0 rfl
                have f7 : World.cell? _ ⟨w.heap.size + 1 + 1 + 1, 0, none⟩ = some (.string ⟨#[]⟩) := Bag.cell_at S14.out 3 rfl 0 rfl
                have f8 : World.cell? _ ⟨w.heap.size + 1 + 1 + 1, 1, none⟩ = some (.slice none 0 0) := Bag.cell_at S14.out 3 rfl 1 rfl
                have f9 : World.cell? _ ⟨w.heap.size + 1 + 1 + 1, 2, none⟩ = some (.int .i64 0) := Bag.cell_at S14.out 3 rfl 2 rfl
                have f10 : World.cell? _ ⟨g1, 0, none⟩ = some (.string nm3) := Bag.cell_at S14.out 5 rfl 0 rfl
                have f11 : World.cell? _ ⟨g1, 1, none⟩ = some (.slice a3 k c3) := Bag.cell_at S14.out 5 rfl 1 rfl
                have f12 : World.cell? _ ⟨g1, 2, none⟩ = some (.int .i64 au3) := Bag.cell_at S14.out 5 rfl 2 rfl
                go_upto_region 14 with fail
                clear f0 f1 f2 f3 f4 f5 f6 f7 f8 f9 f10 f11 f12
                refine wp_region_held_drew (S := (fun w' => World.cell? w' ⟨w.heap.size + 1, 0, none⟩ = some (.int .i64 pk) ∧ World.cell? w' ⟨w.heap.size + 1, 1, none⟩ = some (.int .i64 pn) ∧ World.cell? w' ⟨w.heap.size + 1, 2, none⟩ = some (.string pt) ∧ World.cell? w' ⟨w.heap.size + 1 + 1, 0, none⟩ = some (.slice ra M rc))) (by kernel_rfl) ⟨Bag.cell_at S14.out 1 rfl 0 rfl, Bag.cell_at S14.out 1 rfl 1 rfl, Bag.cell_at S14.out 1 rfl 2 rfl, Bag.cell_at S14.out 2 rfl 0 rfl⟩ (fun hS => ?_)
                have S15 := Lib.hid (show Sl.Sep w _ [L4.boxR w.heap.size 26 #[.string nm3, .slice a k c, .int .i64 au3], L4.boxR (w.heap.size + 1) 28 #[.int .i64 pk, .int .i64 pn, .string pt], L4.boxR (w.heap.size + 1 + 1) 31 #[.slice ra M rc], L4.boxR (w.heap.size + 1 + 1 + 1) 26 #[.string ⟨#[]⟩, .slice none 0 0, .int .i64 0], Sv.ownV 40 4 a3 c3 k (cellsI ys), L4.boxR g1 26 #[.string nm3, .slice a3 k c3, .int .i64 au3], Bag.bag (rowsI ys), Sv.ownV 40 4 a2' c2' k (cellsI (ys.take k))] from Bag.drew1 S14.out)
                clear S14
                generalize World.drew _ = w9 at hS S15 ⊢
                refine tk 0 rfl ?_
                try simp only [zp0, zp1, zp2, zp3, zp4]
                refine tk 1 rfl ?_
                try simp only [zp0, zp1, zp2, zp3, zp4]
                refine tk 2 rfl ?_
                try simp only [zp0, zp1, zp2, zp3, zp4]
                refine Reg.one_op (i := 3) rfl (by kernel_rfl) (fun K hK => ?_)
                go_simp
                go_at_call 67
                refine (HRC.out _ S15.out.old).mono ?_
                rintro e w10 ⟨a1, c1, rfl, ho, hb⟩
                have S16 := Lib.hid (show Sl.Sep w _ [L4.boxR w.heap.size 26 #[.string nm3, .slice a k c, .int .i64 au3], L4.boxR (w.heap.size + 1) 28 #[.int .i64 pk, .int .i64 pn, .string pt], L4.boxR (w.heap.size + 1 + 1) 31 #[.slice ra M rc], L4.boxR (w.heap.size + 1 + 1 + 1) 26 #[.string ⟨#[]⟩, .slice none 0 0, .int .i64 0], Sv.ownV 40 4 a3 c3 k (cellsI ys), L4.boxR g1 26 #[.string nm3, .slice a3 k c3, .int .i64 au3], Bag.bag (rowsI ys), Sv.ownV 40 4 a2' c2' k (cellsI (ys.take k)), Sv.ownV 102 2 a1 c1 M (cellsF rl)] from Sv.push_own S15.out hb ho)
                clear S15
                clear hb ho
                go_wp2_with fail
                refine hK.out _ _ ⟨Bag.cell_at S16.out 1 rfl 0 rfl, Bag.cell_at S16.out 1 rfl 1 rfl, Bag.cell_at S16.out 1 rfl 2 rfl, Bag.cell_at S16.out 2 rfl 0 rfl⟩ (fun hS => ?_)
                clear hK K
                try simp only [zp0, zp1, zp2, zp3, zp4]
                refine tk 4 rfl ?_
                try simp only [zp0, zp1, zp2, zp3, zp4]
                refine Reg.one_op (i := 5) rfl (by kernel_rfl) (fun K hK => ?_)
                go_simp
                have S17 := Lib.hid (show Sl.Sep w _ [L4.boxR w.heap.size 26 #[.string nm3, .slice a k c, .int .i64 au3], L4.boxR (w.heap.size + 1) 28 #[.int .i64 pk, .int .i64 pn, .string pt], L4.boxR (w.heap.size + 1 + 1) 31 #[.slice ra M rc], L4.boxR (w.heap.size + 1 + 1 + 1) 26 #[.string ⟨#[]⟩, .slice none 0 0, .int .i64 0], Sv.ownV 40 4 a3 c3 k (cellsI ys), L4.boxR g1 26 #[.string nm3, .slice a3 k c3, .int .i64 au3], Bag.bag (rowsI ys), Sv.ownV 40 4 a2' c2' k (cellsI (ys.take k)), Sv.ownV 102 2 a1 c1 M (cellsF rl), Sv.ownV 40 4 (some ⟨w10.heap.size, 0, none⟩) 1 1 ([.int .i64 pk, .int .i64 pn, .string pt, .slice a1 M c1])] from Sv.push_own S16.out ((Below.refl _ _).alloc (Nat.le_refl _) _) (OwnV.madeAt w10 40 4 1 w10.heap.size #[.int .i64 pk, .int .i64 pn, .string pt, .slice a1 M c1] rfl (Nat.le_refl _) rfl (by decide)))
                clear S16
                obtain ⟨g3, hg⟩ : ∃ g', g' = w10.heap.size := ⟨_, rfl⟩
                rw [← hg] at S17 ⊢
                clear hg
                generalize w10.alloc (.cells #[.int .i64 pk, .int .i64 pn, .string pt, .slice a1 M c1] 40) = w11 at S17 ⊢
                refine hK.out _ _ ⟨Bag.cell_at S17.out 1 rfl 0 rfl, Bag.cell_at S17.out 1 rfl 1 rfl, Bag.cell_at S17.out 1 rfl 2 rfl, Bag.cell_at S17.out 2 rfl 0 rfl⟩ (fun hS => ?_)
                clear hK K
                try simp only [zp0, zp1, zp2, zp3, zp4]
                refine Reg.one_op (i := 6) rfl (by kernel_rfl) (fun K hK => ?_)
                refine Sv.step_append_s S17.out 7 rfl rfl _ _ 24 (by rfl) i0 (.agg #[.int .i64 0, .int .i64 0, .string ⟨#[]⟩, .slice none 0 0]) 56 Try.underlying24 HI.out.1 HI.out.2.1 HI.out.2.2.1 HI.out.2.2.2 rfl (by omega) _ (by rfl) rfl _ _ 1 _ _ ([.int .i64 pk, .int .i64 pn, .string pt, .slice a1 M c1]) (by rfl) rfl ((Sv.own_at S17.out 9 rfl).reads) rfl (by intro u hu; simp at hu; rcases hu with rfl | rfl | rfl | rfl <;> rfl) (by unfold maxLen; omega) (by omega) ?_
                intro a4' c4' w12 hA
                have S18 := Lib.hid (show Sl.Sep w _ [L4.boxR w.heap.size 26 #[.string nm3, .slice a k c, .int .i64 au3], L4.boxR (w.heap.size + 1) 28 #[.int .i64 pk, .int .i64 pn, .string pt], L4.boxR (w.heap.size + 1 + 1) 31 #[.slice ra M rc], L4.boxR (w.heap.size + 1 + 1 + 1) 26 #[.string ⟨#[]⟩, .slice none 0 0, .int .i64 0], Sv.ownV 40 4 a3 c3 k (cellsI ys), L4.boxR g1 26 #[.string nm3, .slice a3 k c3, .int .i64 au3], Bag.bag (rowsI ys), Sv.ownV 40 4 a4' c4' (k + 1) (cellsI (ys.take k) ++ ([.int .i64 pk, .int .i64 pn, .string pt, .slice a1 M c1])), Sv.ownV 102 2 a1 c1 M (cellsF rl), Sv.ownV 40 4 (some ⟨g3, 0, none⟩) 1 1 ([.int .i64 pk, .int .i64 pn, .string pt, .slice a1 M c1])] from hA)
                clear S17
                clear hA
                refine hK.out _ _ ⟨Bag.cell_at S18.out 1 rfl 0 rfl, Bag.cell_at S18.out 1 rfl 1 rfl, Bag.cell_at S18.out 1 rfl 2 rfl, Bag.cell_at S18.out 2 rfl 0 rfl⟩ (fun hS => ?_)
                clear hK K
                try simp only [zp0, zp1, zp2, zp3, zp4]
                refine tk 7 rfl ?_
                try simp only [zp0, zp1, zp2, zp3, zp4]
                refine wpAnyH_done (by kernel_rfl) ?_ _
                have f0 : World.cell? _ ⟨w.heap.size, 0, none⟩ = some (.string nm3) := Bag.cell_at S18.out 0 rfl 0 rfl
                have f1 : World.cell? _ ⟨w.heap.size, 1, none⟩ = some (.slice a k c) := Bag.cell_at S18.out 0 rfl 1 rfl
                have f2 : World.cell? _ ⟨w.heap.size, 2, none⟩ = some (.int .i64 au3) := Bag.cell_at S18.out 0 rfl 2 rfl
                have f3 : World.cell? _ ⟨w.heap.size + 1, 0, none⟩ = some (.int .i64 pk) := Bag.cell_at S18.out 1 rfl 0 rfl
                have f4 : World.cell? _ ⟨w.heap.size + 1, 1, none⟩ = some (.int .i64 pn) := Bag.cell_at S18.out 1 rfl 1 rfl
                have f5 : World.cell? _ ⟨w.heap.size + 1, 2, none⟩ = some (.string pt) := Bag.cell_at S18.out 1 rfl 2 rfl
                have f6 : World.cell? _ ⟨w.heap.size + 1 + 1, 0, none⟩ = some (.slice ra M rc) := Bag.cell_at S18.out 2 rfl 0 rfl
                have f7 : World.cell? _ ⟨w.heap.size + 1 + 1 + 1, 0, none⟩ = some (.string ⟨#[]⟩) := Bag.cell_at S18.out 3 rfl 0 rfl
                have f8 : World.cell? _ ⟨w.heap.size + 1 + 1 + 1, 1, none⟩ = some (.slice none 0 0) := Bag.cell_at S18.out 3 rfl 1 rfl
                have f9 : World.cell? _ ⟨w.heap.size + 1 + 1 + 1, 2, none⟩ = some (.int .i64 0) := Bag.cell_at S18.out 3 rfl 2 rfl
                have f10 : World.cell? _ ⟨g1, 0, none⟩ = some (.string nm3) := Bag.cell_at S18.out 5 rfl 0 rfl
                have f11 : World.cell? _ ⟨g1, 1, none⟩ = some (.slice a3 k c3) := Bag.cell_at S18.out 5 rfl 1 rfl
                have f12 : World.cell? _ ⟨g1, 2, none⟩ = some (.int .i64 au3) := Bag.cell_at S18.out 5 rfl 2 rfl
                clear f0 f1 f2 f3 f4 f5 f6 f7 f8 f9 f10 f11 f12
                have f0 : World.cell? _ ⟨g1, 0, none⟩ = some (.string nm3) := Bag.cell_at S18.out 5 rfl 0 rfl
                have f1 : World.cell? _ ⟨g1, 1, none⟩ = some (.slice a3 k c3) := Bag.cell_at S18.out 5 rfl 1 rfl
                have f2 : World.cell? _ ⟨g1, 2, none⟩ = some (.int .i64 au3) := Bag.cell_at S18.out 5 rfl 2 rfl
                have hcl := (Sv.own_at S18.out 4 rfl).cap
                have hnl : ys.length ≤ c3 := by omega
                have HNL := Lib.hid hnl
                clear hnl hcl
                have hkN : (k : Int) ≤ (k : Int) := by omega
                have hNc : (k : Int) ≤ (c3 : Int) := by have := HNL.out; omega
                by_cases h9 : c3 = k
                · have h8 : (c3 = k) = True := eq_true h9
                  clear h9
                  go_upto_region 16 with (at_builtin; refine L5.wpList_append_v S18.out 7 rfl rfl _ _ 24 (by rfl) i0 (.agg #[.int .i64 0, .int .i64 0, .string ⟨#[]⟩, .slice none 0 0]) 56 Try.underlying24 HI.out.1 HI.out.2.1 HI.out.2.2.1 HI.out.2.2.2 rfl (by omega) _ (by rfl) rfl _ _ 0 _ _ (cellsI []) (by rfl) rfl (Sl.Reads.nil (B := 0)) rfl (cellsI_one _) (by unfold maxLen; omega) (by omega) ?_; intro a5' c5' w13 hA; have SA := Lib.hid (show Sl.Sep w w13 [L4.boxR w.heap.size 26 #[.string nm3, .slice a k c, .int .i64 au3], L4.boxR (w.heap.size + 1) 28 #[.int .i64 pk, .int .i64 pn, .string pt], L4.boxR (w.heap.size + 1 + 1) 31 #[.slice ra M rc], L4.boxR (w.heap.size + 1 + 1 + 1) 26 #[.string ⟨#[]⟩, .slice none 0 0, .int .i64 0], Sv.ownV 40 4 a3 c3 k (cellsI ys), L4.boxR g1 26 #[.string nm3, .slice a3 k c3, .int .i64 au3], Bag.bag (rowsI ys), Sv.ownV 40 4 (a5') (c5') (k + 1) ((cellsI (ys.take k) ++ ([.int .i64 pk, .int .i64 pn, .string pt, .slice a1 M c1])) ++ cellsI []), Sv.ownV 102 2 a1 c1 M (cellsF rl), Sv.ownV 40 4 (some ⟨g3, 0, none⟩) 1 1 ([.int .i64 pk, .int .i64 pn, .string pt, .slice a1 M c1])] from hA); clear hA; have f0 : World.cell? _ ⟨g1, 1, none⟩ = some (.slice a3 k c3) := Bag.cell_at SA.out 5 rfl 1 rfl; have z1 := Bag.free_at SA.out 5 rfl 1)
                  have S19 := SA
                  clear SA S18 f0 z1
                  have S20 := Lib.hid (show Sl.Sep w _ [L4.boxR w.heap.size 26 #[.string nm3, .slice a k c, .int .i64 au3], L4.boxR (w.heap.size + 1) 28 #[.int .i64 pk, .int .i64 pn, .string pt], L4.boxR (w.heap.size + 1 + 1) 31 #[.slice ra M rc], L4.boxR (w.heap.size + 1 + 1 + 1) 26 #[.string ⟨#[]⟩, .slice none 0 0, .int .i64 0], Sv.ownV 40 4 a3 c3 k (cellsI ys), L4.boxR g1 26 #[.string nm3, .slice a5' (k + 1) c5', .int .i64 au3], Bag.bag (rowsI ys), Sv.ownV 40 4 a5' c5' (k + 1) ((cellsI (ys.take k) ++ ([.int .i64 pk, .int .i64 pn, .string pt, .slice a1 M c1])) ++ cellsI []), Sv.ownV 102 2 a1 c1 M (cellsF rl), Sv.ownV 40 4 (some ⟨g3, 0, none⟩) 1 1 ([.int .i64 pk, .int .i64 pn, .string pt, .slice a1 M c1])] from L5.put_box5 (S19.out) 5 rfl 1 (.slice a5' (k + 1) c5'))
                  clear S19
                  have S21 := Lib.hid (show Sl.Sep w _ [L4.boxR w.heap.size 26 #[.string nm3, .slice a k c, .int .i64 au3], L4.boxR (w.heap.size + 1) 28 #[.int .i64 pk, .int .i64 pn, .string pt], L4.boxR (w.heap.size + 1 + 1) 31 #[.slice ra M rc], L4.boxR (w.heap.size + 1 + 1 + 1) 26 #[.string ⟨#[]⟩, .slice none 0 0, .int .i64 0], L4.boxR g1 26 #[.string nm3, .slice a5' (k + 1) c5', .int .i64 au3], Bag.bag (rowsI ys), Sv.ownV 40 4 a5' c5' (k + 1) ((cellsI (ys.take k) ++ ([.int .i64 pk, .int .i64 pn, .string pt, .slice a1 M c1])) ++ cellsI []), Sv.ownV 102 2 a1 c1 M (cellsF rl)] from Bag.take S20.out [0, 1, 2, 3, 5, 6, 7, 8] (by rfl) (by decide))
                  clear S20
                  obtain ⟨ba, hba⟩ : ∃ b, L1.inB pn (au3 + 1) 1000000 = b := ⟨_, rfl⟩
                  have HIA := fun w => L1.l1In_any pn (au3 + 1) 1000000 w
                  rw [hba] at HIA
                  replace HIA := Lib.hid HIA
                  have hau0 : 0 ≤ au3 := HAU.out.1
                  have hau1 : au3 ≤ 1000000 := HAU.out.2
                  have HBA := Lib.hid hba
                  clear hba
                  have f0 : World.cell? _ ⟨w.heap.size, 0, none⟩ = some (.string nm3) := Bag.cell_at S21.out 0 rfl 0 rfl
                  have f1 : World.cell? _ ⟨w.heap.size, 1, none⟩ = some (.slice a k c) := Bag.cell_at S21.out 0 rfl 1 rfl
                  have f2 : World.cell? _ ⟨w.heap.size, 2, none⟩ = some (.int .i64 au3) := Bag.cell_at S21.out 0 rfl 2 rfl
                  have f3 : World.cell? _ ⟨w.heap.size + 1, 0, none⟩ = some (.int .i64 pk) := Bag.cell_at S21.out 1 rfl 0 rfl
                  have f4 : World.cell? _ ⟨w.heap.size + 1, 1, none⟩ = some (.int .i64 pn) := Bag.cell_at S21.out 1 rfl 1 rfl
                  have f5 : World.cell? _ ⟨w.heap.size + 1, 2, none⟩ = some (.string pt) := Bag.cell_at S21.out 1 rfl 2 rfl
                  have f6 : World.cell? _ ⟨w.heap.size + 1 + 1, 0, none⟩ = some (.slice ra M rc) := Bag.cell_at S21.out 2 rfl 0 rfl
                  have f7 : World.cell? _ ⟨w.heap.size + 1 + 1 + 1, 0, none⟩ = some (.string ⟨#[]⟩) := Bag.cell_at S21.out 3 rfl 0 rfl
                  have f8 : World.cell? _ ⟨w.heap.size + 1 + 1 + 1, 1, none⟩ = some (.slice none 0 0) := Bag.cell_at S21.out 3 rfl 1 rfl
                  have f9 : World.cell? _ ⟨w.heap.size + 1 + 1 + 1, 2, none⟩ = some (.int .i64 0) := Bag.cell_at S21.out 3 rfl 2 rfl
                  have f10 : World.cell? _ ⟨g1, 0, none⟩ = some (.string nm3) := Bag.cell_at S21.out 4 rfl 0 rfl
                  have f11 : World.cell? _ ⟨g1, 1, none⟩ = some (.slice a5' (k + 1) c5') := Bag.cell_at S21.out 4 rfl 1 rfl
                  have f12 : World.cell? _ ⟨g1, 2, none⟩ = some (.int .i64 au3) := Bag.cell_at S21.out 4 rfl 2 rfl
                  by_cases hk1 : pk = 1
                  · subst hk1
                    cases ba with
                    | false =>
                      go_wp2_with fail
                      go_at_call 69
                      refine (HIA.out _).mono ?_
                      rintro e w14 ⟨rfl, rfl⟩
                      clear f0 f1 f2 f3 f4 f5 f6 f7 f8 f9 f10 f11 f12
                      have f0 : World.cell? _ ⟨w.heap.size, 0, none⟩ = some (.string nm3) := Bag.cell_at S21.out 0 rfl 0 rfl
                      have f1 : World.cell? _ ⟨w.heap.size, 1, none⟩ = some (.slice a k c) := Bag.cell_at S21.out 0 rfl 1 rfl
                      have f2 : World.cell? _ ⟨w.heap.size, 2, none⟩ = some (.int .i64 au3) := Bag.cell_at S21.out 0 rfl 2 rfl
                      have f3 : World.cell? _ ⟨w.heap.size + 1, 0, none⟩ = some (.int .i64 1) := Bag.cell_at S21.out 1 rfl 0 rfl
                      have f4 : World.cell? _ ⟨w.heap.size + 1, 1, none⟩ = some (.int .i64 pn) := Bag.cell_at S21.out 1 rfl 1 rfl
                      have f5 : World.cell? _ ⟨w.heap.size + 1, 2, none⟩ = some (.string pt) := Bag.cell_at S21.out 1 rfl 2 rfl
                      have f6 : World.cell? _ ⟨w.heap.size + 1 + 1, 0, none⟩ = some (.slice ra M rc) := Bag.cell_at S21.out 2 rfl 0 rfl
                      have f7 : World.cell? _ ⟨w.heap.size + 1 + 1 + 1, 0, none⟩ = some (.string ⟨#[]⟩) := Bag.cell_at S21.out 3 rfl 0 rfl
                      have f8 : World.cell? _ ⟨w.heap.size + 1 + 1 + 1, 1, none⟩ = some (.slice none 0 0) := Bag.cell_at S21.out 3 rfl 1 rfl
                      have f9 : World.cell? _ ⟨w.heap.size + 1 + 1 + 1, 2, none⟩ = some (.int .i64 0) := Bag.cell_at S21.out 3 rfl 2 rfl
                      have f10 : World.cell? _ ⟨g1, 0, none⟩ = some (.string nm3) := Bag.cell_at S21.out 4 rfl 0 rfl
                      have f11 : World.cell? _ ⟨g1, 1, none⟩ = some (.slice a5' (k + 1) c5') := Bag.cell_at S21.out 4 rfl 1 rfl
                      have f12 : World.cell? _ ⟨g1, 2, none⟩ = some (.int .i64 au3) := Bag.cell_at S21.out 4 rfl 2 rfl
                      have z0 := Bag.free_at S21.out 3 rfl 0
                      have z1 := Bag.free_at S21.out 3 rfl 1
                      have z2 := Bag.free_at S21.out 3 rfl 2
                      go_wp2_with fail
                      clear f0 f1 f2 f3 f4 f5 f6 f7 f8 f9 f10 f11 f12 z0 z1 z2
                      have S22 := Lib.hid (show Sl.Sep w _ [L4.boxR w.heap.size 26 #[.string nm3, .slice a k c, .int .i64 au3], L4.boxR (w.heap.size + 1) 28 #[.int .i64 1, .int .i64 pn, .string pt], L4.boxR (w.heap.size + 1 + 1) 31 #[.slice ra M rc], L4.boxR (w.heap.size + 1 + 1 + 1) 26 #[.string nm3, .slice a5' (k + 1) c5', .int .i64 au3], L4.boxR g1 26 #[.string nm3, .slice a5' (k + 1) c5', .int .i64 au3], Bag.bag (rowsI ys), Sv.ownV 40 4 a5' c5' (k + 1) ((cellsI (ys.take k) ++ ([.int .i64 1, .int .i64 pn, .string pt, .slice a1 M c1])) ++ cellsI []), Sv.ownV 102 2 a1 c1 M (cellsF rl)] from L5.put_box5 (L5.put_box5 (L5.put_box5 (S21.out) 3 rfl 0 (.string nm3)) 3 rfl 1 (.slice a5' (k + 1) c5')) 3 rfl 2 (.int .i64 au3))
                      clear S21
                      have f0 : World.cell? _ ⟨w.heap.size + 1 + 1 + 1, 0, none⟩ = some (.string nm3) := Bag.cell_at S22.out 3 rfl 0 rfl
                      have f1 : World.cell? _ ⟨w.heap.size + 1 + 1 + 1, 1, none⟩ = some (.slice a5' (k + 1) c5') := Bag.cell_at S22.out 3 rfl 1 rfl
                      have f2 : World.cell? _ ⟨w.heap.size + 1 + 1 + 1, 2, none⟩ = some (.int .i64 au3) := Bag.cell_at S22.out 3 rfl 2 rfl
                      refine bodyPost_ret (v := .tuple #[.agg #[.string nm3, .slice a5' (k + 1) c5', .int .i64 au3], .bool true]) (by simp [results, Try.results18, go_sem, *]) rfl ?_
                      clear f0 f1 f2
                      have HX9 := Lib.hid (show nextAuto au3 ⟨1, pn, pt⟩ = au3 from by unfold nextAuto; dsimp only; rw [HBA.out, Bool.and_false]; rfl)
                      have hM := HM.out
                      subst hM
                      have S90 := Lib.hid (Bag.bag_of_one S22.out 7 (r := (LI.mk ⟨1, pn, pt⟩ a1 c1 rl).row) rfl)
                      have S91 := Lib.hid (Bag.bag_join S90.out 5 7 (by decide) rfl rfl)
                      have S92 := Lib.hid (Bag.bag_perm S91.out 5 rfl (rowsI_ins ys k ⟨⟨1, pn, pt⟩, a1, c1, rl⟩))
                      have hlz : (ys.take k ++ ⟨⟨1, pn, pt⟩, a1, c1, rl⟩ :: ys.drop k).length = k + 1 := by rw [List.length_append, List.length_cons, List.length_take, List.length_drop]; omega
                      have hcz : cellsI (ys.take k ++ ⟨⟨1, pn, pt⟩, a1, c1, rl⟩ :: ys.drop k) = (cellsI (ys.take k) ++ ([.int .i64 1, .int .i64 pn, .string pt, .slice a1 rl.length c1])) ++ cellsI [] := by rw [cellsI_append, cellsI_cons]; rw [List.drop_of_length_le (show ys.length ≤ k by omega)]; simp [cellsI]
                      have S93 := Lib.hid (Bag.bag_of_one S92.out 6 (r := rowI a5' c5' (ys.take k ++ ⟨⟨1, pn, pt⟩, a1, c1, rl⟩ :: ys.drop k)) (by unfold RowS.res rowI; dsimp only; rw [hlz, hcz]; rfl))
                      have S94 := Lib.hid (Bag.bag_join S93.out 6 5 (by decide) rfl rfl)
                      refine ⟨⟨nm3, a5', c5', ys.take k ++ ⟨⟨1, pn, pt⟩, a1, c1, rl⟩ :: ys.drop k, au3⟩, ?_, ?_, ?_, S94.out.old⟩
                      · rw [HE.out]; unfold LS.v LS.cells; dsimp only; rw [hlz]
                      · rw [HE.out, HX9.out, HPOS.out]; unfold LS.con; dsimp only; rw [conI_ins, HCE.out]; rfl
                      · have h := Bag.bag_from S94.out 6 rfl
                        unfold LS.rows; exact h
                    | true =>
                      go_wp2_with fail
                      go_at_call 69
                      refine (HIA.out _).mono ?_
                      rintro e w14 ⟨rfl, rfl⟩
                      clear f0 f1 f2 f3 f4 f5 f6 f7 f8 f9 f10 f11 f12
                      have f0 : World.cell? _ ⟨w.heap.size, 0, none⟩ = some (.string nm3) := Bag.cell_at S21.out 0 rfl 0 rfl
                      have f1 : World.cell? _ ⟨w.heap.size, 1, none⟩ = some (.slice a k c) := Bag.cell_at S21.out 0 rfl 1 rfl
                      have f2 : World.cell? _ ⟨w.heap.size, 2, none⟩ = some (.int .i64 au3) := Bag.cell_at S21.out 0 rfl 2 rfl
                      have f3 : World.cell? _ ⟨w.heap.size + 1, 0, none⟩ = some (.int .i64 1) := Bag.cell_at S21.out 1 rfl 0 rfl
                      have f4 : World.cell? _ ⟨w.heap.size + 1, 1, none⟩ = some (.int .i64 pn) := Bag.cell_at S21.out 1 rfl 1 rfl
                      have f5 : World.cell? _ ⟨w.heap.size + 1, 2, none⟩ = some (.string pt) := Bag.cell_at S21.out 1 rfl 2 rfl
                      have f6 : World.cell? _ ⟨w.heap.size + 1 + 1, 0, none⟩ = some (.slice ra M rc) := Bag.cell_at S21.out 2 rfl 0 rfl
                      have f7 : World.cell? _ ⟨w.heap.size + 1 + 1 + 1, 0, none⟩ = some (.string ⟨#[]⟩) := Bag.cell_at S21.out 3 rfl 0 rfl
                      have f8 : World.cell? _ ⟨w.heap.size + 1 + 1 + 1, 1, none⟩ = some (.slice none 0 0) := Bag.cell_at S21.out 3 rfl 1 rfl
                      have f9 : World.cell? _ ⟨w.heap.size + 1 + 1 + 1, 2, none⟩ = some (.int .i64 0) := Bag.cell_at S21.out 3 rfl 2 rfl
                      have f10 : World.cell? _ ⟨g1, 0, none⟩ = some (.string nm3) := Bag.cell_at S21.out 4 rfl 0 rfl
                      have f11 : World.cell? _ ⟨g1, 1, none⟩ = some (.slice a5' (k + 1) c5') := Bag.cell_at S21.out 4 rfl 1 rfl
                      have f12 : World.cell? _ ⟨g1, 2, none⟩ = some (.int .i64 au3) := Bag.cell_at S21.out 4 rfl 2 rfl
                      have z0 := Bag.free_at S21.out 4 rfl 0
                      have z1 := Bag.free_at S21.out 4 rfl 1
                      have z2 := Bag.free_at S21.out 4 rfl 2
                      go_upto_region 18 with fail
                      clear f0 f1 f2 f3 f4 f5 f6 f7 f8 f9 f10 f11 f12 z0 z1 z2
                      have S22 := Lib.hid (show Sl.Sep w _ [L4.boxR w.heap.size 26 #[.string nm3, .slice a k c, .int .i64 au3], L4.boxR (w.heap.size + 1) 28 #[.int .i64 1, .int .i64 pn, .string pt], L4.boxR (w.heap.size + 1 + 1) 31 #[.slice ra M rc], L4.boxR (w.heap.size + 1 + 1 + 1) 26 #[.string ⟨#[]⟩, .slice none 0 0, .int .i64 0], L4.boxR g1 26 #[.string nm3, .slice a5' (k + 1) c5', .int .i64 pn], Bag.bag (rowsI ys), Sv.ownV 40 4 a5' c5' (k + 1) ((cellsI (ys.take k) ++ ([.int .i64 1, .int .i64 pn, .string pt, .slice a1 M c1])) ++ cellsI []), Sv.ownV 102 2 a1 c1 M (cellsF rl)] from L5.put_box5 (S21.out) 4 rfl 2 (.int .i64 pn))
                      clear S21
                      have f0 : World.cell? _ ⟨w.heap.size, 0, none⟩ = some (.string nm3) := Bag.cell_at S22.out 0 rfl 0 rfl
                      have f1 : World.cell? _ ⟨w.heap.size, 1, none⟩ = some (.slice a k c) := Bag.cell_at S22.out 0 rfl 1 rfl
                      have f2 : World.cell? _ ⟨w.heap.size, 2, none⟩ = some (.int .i64 au3) := Bag.cell_at S22.out 0 rfl 2 rfl
                      have f3 : World.cell? _ ⟨w.heap.size + 1, 0, none⟩ = some (.int .i64 1) := Bag.cell_at S22.out 1 rfl 0 rfl
                      have f4 : World.cell? _ ⟨w.heap.size + 1, 1, none⟩ = some (.int .i64 pn) := Bag.cell_at S22.out 1 rfl 1 rfl
                      have f5 : World.cell? _ ⟨w.heap.size + 1, 2, none⟩ = some (.string pt) := Bag.cell_at S22.out 1 rfl 2 rfl
                      have f6 : World.cell? _ ⟨w.heap.size + 1 + 1, 0, none⟩ = some (.slice ra M rc) := Bag.cell_at S22.out 2 rfl 0 rfl
                      have f7 : World.cell? _ ⟨w.heap.size + 1 + 1 + 1, 0, none⟩ = some (.string ⟨#[]⟩) := Bag.cell_at S22.out 3 rfl 0 rfl
                      have f8 : World.cell? _ ⟨w.heap.size + 1 + 1 + 1, 1, none⟩ = some (.slice none 0 0) := Bag.cell_at S22.out 3 rfl 1 rfl
                      have f9 : World.cell? _ ⟨w.heap.size + 1 + 1 + 1, 2, none⟩ = some (.int .i64 0) := Bag.cell_at S22.out 3 rfl 2 rfl
                      have f10 : World.cell? _ ⟨g1, 0, none⟩ = some (.string nm3) := Bag.cell_at S22.out 4 rfl 0 rfl
                      have f11 : World.cell? _ ⟨g1, 1, none⟩ = some (.slice a5' (k + 1) c5') := Bag.cell_at S22.out 4 rfl 1 rfl
                      have f12 : World.cell? _ ⟨g1, 2, none⟩ = some (.int .i64 pn) := Bag.cell_at S22.out 4 rfl 2 rfl
                      have z0 := Bag.free_at S22.out 3 rfl 0
                      have z1 := Bag.free_at S22.out 3 rfl 1
                      have z2 := Bag.free_at S22.out 3 rfl 2
                      go_wp2_with fail
                      clear f0 f1 f2 f3 f4 f5 f6 f7 f8 f9 f10 f11 f12 z0 z1 z2
                      have S23 := Lib.hid (show Sl.Sep w _ [L4.boxR w.heap.size 26 #[.string nm3, .slice a k c, .int .i64 au3], L4.boxR (w.heap.size + 1) 28 #[.int .i64 1, .int .i64 pn, .string pt], L4.boxR (w.heap.size + 1 + 1) 31 #[.slice ra M rc], L4.boxR (w.heap.size + 1 + 1 + 1) 26 #[.string nm3, .slice a5' (k + 1) c5', .int .i64 pn], L4.boxR g1 26 #[.string nm3, .slice a5' (k + 1) c5', .int .i64 pn], Bag.bag (rowsI ys), Sv.ownV 40 4 a5' c5' (k + 1) ((cellsI (ys.take k) ++ ([.int .i64 1, .int .i64 pn, .string pt, .slice a1 M c1])) ++ cellsI []), Sv.ownV 102 2 a1 c1 M (cellsF rl)] from L5.put_box5 (L5.put_box5 (L5.put_box5 (S22.out) 3 rfl 0 (.string nm3)) 3 rfl 1 (.slice a5' (k + 1) c5')) 3 rfl 2 (.int .i64 pn))
                      clear S22
                      have f0 : World.cell? _ ⟨w.heap.size + 1 + 1 + 1, 0, none⟩ = some (.string nm3) := Bag.cell_at S23.out 3 rfl 0 rfl
                      have f1 : World.cell? _ ⟨w.heap.size + 1 + 1 + 1, 1, none⟩ = some (.slice a5' (k + 1) c5') := Bag.cell_at S23.out 3 rfl 1 rfl
                      have f2 : World.cell? _ ⟨w.heap.size + 1 + 1 + 1, 2, none⟩ = some (.int .i64 pn) := Bag.cell_at S23.out 3 rfl 2 rfl
                      refine bodyPost_ret (v := .tuple #[.agg #[.string nm3, .slice a5' (k + 1) c5', .int .i64 pn], .bool true]) (by simp [results, Try.results18, go_sem, *]) rfl ?_
                      clear f0 f1 f2
                      have HX9 := Lib.hid (show nextAuto au3 ⟨1, pn, pt⟩ = pn from by unfold nextAuto; dsimp only; rw [HBA.out]; rfl)
                      have hM := HM.out
                      subst hM
                      have S90 := Lib.hid (Bag.bag_of_one S23.out 7 (r := (LI.mk ⟨1, pn, pt⟩ a1 c1 rl).row) rfl)
                      have S91 := Lib.hid (Bag.bag_join S90.out 5 7 (by decide) rfl rfl)
                      have S92 := Lib.hid (Bag.bag_perm S91.out 5 rfl (rowsI_ins ys k ⟨⟨1, pn, pt⟩, a1, c1, rl⟩))
                      have hlz : (ys.take k ++ ⟨⟨1, pn, pt⟩, a1, c1, rl⟩ :: ys.drop k).length = k + 1 := by rw [List.length_append, List.length_cons, List.length_take, List.length_drop]; omega
                      have hcz : cellsI (ys.take k ++ ⟨⟨1, pn, pt⟩, a1, c1, rl⟩ :: ys.drop k) = (cellsI (ys.take k) ++ ([.int .i64 1, .int .i64 pn, .string pt, .slice a1 rl.length c1])) ++ cellsI [] := by rw [cellsI_append, cellsI_cons]; rw [List.drop_of_length_le (show ys.length ≤ k by omega)]; simp [cellsI]
                      have S93 := Lib.hid (Bag.bag_of_one S92.out 6 (r := rowI a5' c5' (ys.take k ++ ⟨⟨1, pn, pt⟩, a1, c1, rl⟩ :: ys.drop k)) (by unfold RowS.res rowI; dsimp only; rw [hlz, hcz]; rfl))
                      have S94 := Lib.hid (Bag.bag_join S93.out 6 5 (by decide) rfl rfl)
                      refine ⟨⟨nm3, a5', c5', ys.take k ++ ⟨⟨1, pn, pt⟩, a1, c1, rl⟩ :: ys.drop k, pn⟩, ?_, ?_, ?_, S94.out.old⟩
                      · rw [HE.out]; unfold LS.v LS.cells; dsimp only; rw [hlz]
                      · rw [HE.out, HX9.out, HPOS.out]; unfold LS.con; dsimp only; rw [conI_ins, HCE.out]; rfl
                      · have h := Bag.bag_from S94.out 6 rfl
                        unfold LS.rows; exact h
                  · have hk2 : (pk == 1) = false := by simpa using hk1
                    clear f0 f1 f2 f3 f4 f5 f6 f7 f8 f9 f10 f11 f12
                    have f0 : World.cell? _ ⟨w.heap.size, 0, none⟩ = some (.string nm3) := Bag.cell_at S21.out 0 rfl 0 rfl
                    have f1 : World.cell? _ ⟨w.heap.size, 1, none⟩ = some (.slice a k c) := Bag.cell_at S21.out 0 rfl 1 rfl
                    have f2 : World.cell? _ ⟨w.heap.size, 2, none⟩ = some (.int .i64 au3) := Bag.cell_at S21.out 0 rfl 2 rfl
                    have f3 : World.cell? _ ⟨w.heap.size + 1, 0, none⟩ = some (.int .i64 pk) := Bag.cell_at S21.out 1 rfl 0 rfl
                    have f4 : World.cell? _ ⟨w.heap.size + 1, 1, none⟩ = some (.int .i64 pn) := Bag.cell_at S21.out 1 rfl 1 rfl
                    have f5 : World.cell? _ ⟨w.heap.size + 1, 2, none⟩ = some (.string pt) := Bag.cell_at S21.out 1 rfl 2 rfl
                    have f6 : World.cell? _ ⟨w.heap.size + 1 + 1, 0, none⟩ = some (.slice ra M rc) := Bag.cell_at S21.out 2 rfl 0 rfl
                    have f7 : World.cell? _ ⟨w.heap.size + 1 + 1 + 1, 0, none⟩ = some (.string ⟨#[]⟩) := Bag.cell_at S21.out 3 rfl 0 rfl
                    have f8 : World.cell? _ ⟨w.heap.size + 1 + 1 + 1, 1, none⟩ = some (.slice none 0 0) := Bag.cell_at S21.out 3 rfl 1 rfl
                    have f9 : World.cell? _ ⟨w.heap.size + 1 + 1 + 1, 2, none⟩ = some (.int .i64 0) := Bag.cell_at S21.out 3 rfl 2 rfl
                    have f10 : World.cell? _ ⟨g1, 0, none⟩ = some (.string nm3) := Bag.cell_at S21.out 4 rfl 0 rfl
                    have f11 : World.cell? _ ⟨g1, 1, none⟩ = some (.slice a5' (k + 1) c5') := Bag.cell_at S21.out 4 rfl 1 rfl
                    have f12 : World.cell? _ ⟨g1, 2, none⟩ = some (.int .i64 au3) := Bag.cell_at S21.out 4 rfl 2 rfl
                    have z0 := Bag.free_at S21.out 3 rfl 0
                    have z1 := Bag.free_at S21.out 3 rfl 1
                    have z2 := Bag.free_at S21.out 3 rfl 2
                    go_wp2_with fail
                    clear f0 f1 f2 f3 f4 f5 f6 f7 f8 f9 f10 f11 f12 z0 z1 z2
                    have S22 := Lib.hid (show Sl.Sep w _ [L4.boxR w.heap.size 26 #[.string nm3, .slice a k c, .int .i64 au3], L4.boxR (w.heap.size + 1) 28 #[.int .i64 pk, .int .i64 pn, .string pt], L4.boxR (w.heap.size + 1 + 1) 31 #[.slice ra M rc], L4.boxR (w.heap.size + 1 + 1 + 1) 26 #[.string nm3, .slice a5' (k + 1) c5', .int .i64 au3], L4.boxR g1 26 #[.string nm3, .slice a5' (k + 1) c5', .int .i64 au3], Bag.bag (rowsI ys), Sv.ownV 40 4 a5' c5' (k + 1) ((cellsI (ys.take k) ++ ([.int .i64 pk, .int .i64 pn, .string pt, .slice a1 M c1])) ++ cellsI []), Sv.ownV 102 2 a1 c1 M (cellsF rl)] from L5.put_box5 (L5.put_box5 (L5.put_box5 (S21.out) 3 rfl 0 (.string nm3)) 3 rfl 1 (.slice a5' (k + 1) c5')) 3 rfl 2 (.int .i64 au3))
                    clear S21
                    have f0 : World.cell? _ ⟨w.heap.size + 1 + 1 + 1, 0, none⟩ = some (.string nm3) := Bag.cell_at S22.out 3 rfl 0 rfl
                    have f1 : World.cell? _ ⟨w.heap.size + 1 + 1 + 1, 1, none⟩ = some (.slice a5' (k + 1) c5') := Bag.cell_at S22.out 3 rfl 1 rfl
                    have f2 : World.cell? _ ⟨w.heap.size + 1 + 1 + 1, 2, none⟩ = some (.int .i64 au3) := Bag.cell_at S22.out 3 rfl 2 rfl
                    refine bodyPost_ret (v := .tuple #[.agg #[.string nm3, .slice a5' (k + 1) c5', .int .i64 au3], .bool true]) (by simp [results, Try.results18, go_sem, *]) rfl ?_
                    clear f0 f1 f2
                    have HX9 := Lib.hid (show nextAuto au3 ⟨pk, pn, pt⟩ = au3 from by unfold nextAuto; dsimp only; rw [hk2]; rfl)
                    have hM := HM.out
                    subst hM
                    have S90 := Lib.hid (Bag.bag_of_one S22.out 7 (r := (LI.mk ⟨pk, pn, pt⟩ a1 c1 rl).row) rfl)
                    have S91 := Lib.hid (Bag.bag_join S90.out 5 7 (by decide) rfl rfl)
                    have S92 := Lib.hid (Bag.bag_perm S91.out 5 rfl (rowsI_ins ys k ⟨⟨pk, pn, pt⟩, a1, c1, rl⟩))
                    have hlz : (ys.take k ++ ⟨⟨pk, pn, pt⟩, a1, c1, rl⟩ :: ys.drop k).length = k + 1 := by rw [List.length_append, List.length_cons, List.length_take, List.length_drop]; omega
                    have hcz : cellsI (ys.take k ++ ⟨⟨pk, pn, pt⟩, a1, c1, rl⟩ :: ys.drop k) = (cellsI (ys.take k) ++ ([.int .i64 pk, .int .i64 pn, .string pt, .slice a1 rl.length c1])) ++ cellsI [] := by rw [cellsI_append, cellsI_cons]; rw [List.drop_of_length_le (show ys.length ≤ k by omega)]; simp [cellsI]
                    have S93 := Lib.hid (Bag.bag_of_one S92.out 6 (r := rowI a5' c5' (ys.take k ++ ⟨⟨pk, pn, pt⟩, a1, c1, rl⟩ :: ys.drop k)) (by unfold RowS.res rowI; dsimp only; rw [hlz, hcz]; rfl))
                    have S94 := Lib.hid (Bag.bag_join S93.out 6 5 (by decide) rfl rfl)
                    refine ⟨⟨nm3, a5', c5', ys.take k ++ ⟨⟨pk, pn, pt⟩, a1, c1, rl⟩ :: ys.drop k, au3⟩, ?_, ?_, ?_, S94.out.old⟩
                    · rw [HE.out]; unfold LS.v LS.cells; dsimp only; rw [hlz]
                    · rw [HE.out, HX9.out, HPOS.out]; unfold LS.con; dsimp only; rw [conI_ins, HCE.out]; rfl
                    · have h := Bag.bag_from S94.out 6 rfl
                      unfold LS.rows; exact h
                · have h8 : (c3 = k) = False := eq_false h9
                  clear h9
                  go_upto_region 16 with (at_builtin; refine L5.wpList_append_v S18.out 7 rfl rfl _ _ 24 (by rfl) i0 (.agg #[.int .i64 0, .int .i64 0, .string ⟨#[]⟩, .slice none 0 0]) 56 Try.underlying24 HI.out.1 HI.out.2.1 HI.out.2.2.1 HI.out.2.2.2 rfl (by omega) _ (by rfl) rfl _ _ 0 _ _ (cellsI []) (by rfl) rfl (Sl.Reads.nil (B := 0)) rfl (cellsI_one _) (by unfold maxLen; omega) (by omega) ?_; intro a5' c5' w13 hA; have SA := Lib.hid (show Sl.Sep w w13 [L4.boxR w.heap.size 26 #[.string nm3, .slice a k c, .int .i64 au3], L4.boxR (w.heap.size + 1) 28 #[.int .i64 pk, .int .i64 pn, .string pt], L4.boxR (w.heap.size + 1 + 1) 31 #[.slice ra M rc], L4.boxR (w.heap.size + 1 + 1 + 1) 26 #[.string ⟨#[]⟩, .slice none 0 0, .int .i64 0], Sv.ownV 40 4 a3 c3 k (cellsI ys), L4.boxR g1 26 #[.string nm3, .slice a3 k c3, .int .i64 au3], Bag.bag (rowsI ys), Sv.ownV 40 4 (a5') (c5') (k + 1) ((cellsI (ys.take k) ++ ([.int .i64 pk, .int .i64 pn, .string pt, .slice a1 M c1])) ++ cellsI []), Sv.ownV 102 2 a1 c1 M (cellsF rl), Sv.ownV 40 4 (some ⟨g3, 0, none⟩) 1 1 ([.int .i64 pk, .int .i64 pn, .string pt, .slice a1 M c1])] from hA); clear hA; have f0 : World.cell? _ ⟨g1, 1, none⟩ = some (.slice a3 k c3) := Bag.cell_at SA.out 5 rfl 1 rfl; have z1 := Bag.free_at SA.out 5 rfl 1)
                  have S19 := SA
                  clear SA S18 f0 z1
                  have S20 := Lib.hid (show Sl.Sep w _ [L4.boxR w.heap.size 26 #[.string nm3, .slice a k c, .int .i64 au3], L4.boxR (w.heap.size + 1) 28 #[.int .i64 pk, .int .i64 pn, .string pt], L4.boxR (w.heap.size + 1 + 1) 31 #[.slice ra M rc], L4.boxR (w.heap.size + 1 + 1 + 1) 26 #[.string ⟨#[]⟩, .slice none 0 0, .int .i64 0], Sv.ownV 40 4 a3 c3 k (cellsI ys), L4.boxR g1 26 #[.string nm3, .slice a5' (k + 1) c5', .int .i64 au3], Bag.bag (rowsI ys), Sv.ownV 40 4 a5' c5' (k + 1) ((cellsI (ys.take k) ++ ([.int .i64 pk, .int .i64 pn, .string pt, .slice a1 M c1])) ++ cellsI []), Sv.ownV 102 2 a1 c1 M (cellsF rl), Sv.ownV 40 4 (some ⟨g3, 0, none⟩) 1 1 ([.int .i64 pk, .int .i64 pn, .string pt, .slice a1 M c1])] from L5.put_box5 (S19.out) 5 rfl 1 (.slice a5' (k + 1) c5'))
                  clear S19
                  have S21 := Lib.hid (show Sl.Sep w _ [L4.boxR w.heap.size 26 #[.string nm3, .slice a k c, .int .i64 au3], L4.boxR (w.heap.size + 1) 28 #[.int .i64 pk, .int .i64 pn, .string pt], L4.boxR (w.heap.size + 1 + 1) 31 #[.slice ra M rc], L4.boxR (w.heap.size + 1 + 1 + 1) 26 #[.string ⟨#[]⟩, .slice none 0 0, .int .i64 0], L4.boxR g1 26 #[.string nm3, .slice a5' (k + 1) c5', .int .i64 au3], Bag.bag (rowsI ys), Sv.ownV 40 4 a5' c5' (k + 1) ((cellsI (ys.take k) ++ ([.int .i64 pk, .int .i64 pn, .string pt, .slice a1 M c1])) ++ cellsI []), Sv.ownV 102 2 a1 c1 M (cellsF rl)] from Bag.take S20.out [0, 1, 2, 3, 5, 6, 7, 8] (by rfl) (by decide))
                  clear S20
                  obtain ⟨ba, hba⟩ : ∃ b, L1.inB pn (au3 + 1) 1000000 = b := ⟨_, rfl⟩
                  have HIA := fun w => L1.l1In_any pn (au3 + 1) 1000000 w
                  rw [hba] at HIA
                  replace HIA := Lib.hid HIA
                  have hau0 : 0 ≤ au3 := HAU.out.1
                  have hau1 : au3 ≤ 1000000 := HAU.out.2
                  have HBA := Lib.hid hba
                  clear hba
                  have f0 : World.cell? _ ⟨w.heap.size, 0, none⟩ = some (.string nm3) := Bag.cell_at S21.out 0 rfl 0 rfl
                  have f1 : World.cell? _ ⟨w.heap.size, 1, none⟩ = some (.slice a k c) := Bag.cell_at S21.out 0 rfl 1 rfl
                  have f2 : World.cell? _ ⟨w.heap.size, 2, none⟩ = some (.int .i64 au3) := Bag.cell_at S21.out 0 rfl 2 rfl
                  have f3 : World.cell? _ ⟨w.heap.size + 1, 0, none⟩ = some (.int .i64 pk) := Bag.cell_at S21.out 1 rfl 0 rfl
                  have f4 : World.cell? _ ⟨w.heap.size + 1, 1, none⟩ = some (.int .i64 pn) := Bag.cell_at S21.out 1 rfl 1 rfl
                  have f5 : World.cell? _ ⟨w.heap.size + 1, 2, none⟩ = some (.string pt) := Bag.cell_at S21.out 1 rfl 2 rfl
                  have f6 : World.cell? _ ⟨w.heap.size + 1 + 1, 0, none⟩ = some (.slice ra M rc) := Bag.cell_at S21.out 2 rfl 0 rfl
                  have f7 : World.cell? _ ⟨w.heap.size + 1 + 1 + 1, 0, none⟩ = some (.string ⟨#[]⟩) := Bag.cell_at S21.out 3 rfl 0 rfl
                  have f8 : World.cell? _ ⟨w.heap.size + 1 + 1 + 1, 1, none⟩ = some (.slice none 0 0) := Bag.cell_at S21.out 3 rfl 1 rfl
                  have f9 : World.cell? _ ⟨w.heap.size + 1 + 1 + 1, 2, none⟩ = some (.int .i64 0) := Bag.cell_at S21.out 3 rfl 2 rfl
                  have f10 : World.cell? _ ⟨g1, 0, none⟩ = some (.string nm3) := Bag.cell_at S21.out 4 rfl 0 rfl
                  have f11 : World.cell? _ ⟨g1, 1, none⟩ = some (.slice a5' (k + 1) c5') := Bag.cell_at S21.out 4 rfl 1 rfl
                  have f12 : World.cell? _ ⟨g1, 2, none⟩ = some (.int .i64 au3) := Bag.cell_at S21.out 4 rfl 2 rfl
                  by_cases hk1 : pk = 1
                  · subst hk1
                    cases ba with
                    | false =>
                      go_wp2_with fail
                      go_at_call 69
                      refine (HIA.out _).mono ?_
                      rintro e w14 ⟨rfl, rfl⟩
                      clear f0 f1 f2 f3 f4 f5 f6 f7 f8 f9 f10 f11 f12
                      have f0 : World.cell? _ ⟨w.heap.size, 0, none⟩ = some (.string nm3) := Bag.cell_at S21.out 0 rfl 0 rfl
                      have f1 : World.cell? _ ⟨w.heap.size, 1, none⟩ = some (.slice a k c) := Bag.cell_at S21.out 0 rfl 1 rfl
                      have f2 : World.cell? _ ⟨w.heap.size, 2, none⟩ = some (.int .i64 au3) := Bag.cell_at S21.out 0 rfl 2 rfl
                      have f3 : World.cell? _ ⟨w.heap.size + 1, 0, none⟩ = some (.int .i64 1) := Bag.cell_at S21.out 1 rfl 0 rfl
                      have f4 : World.cell? _ ⟨w.heap.size + 1, 1, none⟩ = some (.int .i64 pn) := Bag.cell_at S21.out 1 rfl 1 rfl
                      have f5 : World.cell? _ ⟨w.heap.size + 1, 2, none⟩ = some (.string pt) := Bag.cell_at S21.out 1 rfl 2 rfl
                      have f6 : World.cell? _ ⟨w.heap.size + 1 + 1, 0, none⟩ = some (.slice ra M rc) := Bag.cell_at S21.out 2 rfl 0 rfl
                      have f7 : World.cell? _ ⟨w.heap.size + 1 + 1 + 1, 0, none⟩ = some (.string ⟨#[]⟩) := Bag.cell_at S21.out 3 rfl 0 rfl
                      have f8 : World.cell? _ ⟨w.heap.size + 1 + 1 + 1, 1, none⟩ = some (.slice none 0 0) := Bag.cell_at S21.out 3 rfl 1 rfl
                      have f9 : World.cell? _ ⟨w.heap.size + 1 + 1 + 1, 2, none⟩ = some (.int .i64 0) := Bag.cell_at S21.out 3 rfl 2 rfl
                      have f10 : World.cell? _ ⟨g1, 0, none⟩ = some (.string nm3) := Bag.cell_at S21.out 4 rfl 0 rfl
                      have f11 : World.cell? _ ⟨g1, 1, none⟩ = some (.slice a5' (k + 1) c5') := Bag.cell_at S21.out 4 rfl 1 rfl
                      have f12 : World.cell? _ ⟨g1, 2, none⟩ = some (.int .i64 au3) := Bag.cell_at S21.out 4 rfl 2 rfl
                      have z0 := Bag.free_at S21.out 3 rfl 0
                      have z1 := Bag.free_at S21.out 3 rfl 1
                      have z2 := Bag.free_at S21.out 3 rfl 2
                      go_wp2_with fail
                      clear f0 f1 f2 f3 f4 f5 f6 f7 f8 f9 f10 f11 f12 z0 z1 z2
                      have S22 := Lib.hid (show Sl.Sep w _ [L4.boxR w.heap.size 26 #[.string nm3, .slice a k c, .int .i64 au3], L4.boxR (w.heap.size + 1) 28 #[.int .i64 1, .int .i64 pn, .string pt], L4.boxR (w.heap.size + 1 + 1) 31 #[.slice ra M rc], L4.boxR (w.heap.size + 1 + 1 + 1) 26 #[.string nm3, .slice a5' (k + 1) c5', .int .i64 au3], L4.boxR g1 26 #[.string nm3, .slice a5' (k + 1) c5', .int .i64 au3], Bag.bag (rowsI ys), Sv.ownV 40 4 a5' c5' (k + 1) ((cellsI (ys.take k) ++ ([.int .i64 1, .int .i64 pn, .string pt, .slice a1 M c1])) ++ cellsI []), Sv.ownV 102 2 a1 c1 M (cellsF rl)] from L5.put_box5 (L5.put_box5 (L5.put_box5 (S21.out) 3 rfl 0 (.string nm3)) 3 rfl 1 (.slice a5' (k + 1) c5')) 3 rfl 2 (.int .i64 au3))
                      clear S21
                      have f0 : World.cell? _ ⟨w.heap.size + 1 + 1 + 1, 0, none⟩ = some (.string nm3) := Bag.cell_at S22.out 3 rfl 0 rfl
                      have f1 : World.cell? _ ⟨w.heap.size + 1 + 1 + 1, 1, none⟩ = some (.slice a5' (k + 1) c5') := Bag.cell_at S22.out 3 rfl 1 rfl
                      have f2 : World.cell? _ ⟨w.heap.size + 1 + 1 + 1, 2, none⟩ = some (.int .i64 au3) := Bag.cell_at S22.out 3 rfl 2 rfl
                      refine bodyPost_ret (v := .tuple #[.agg #[.string nm3, .slice a5' (k + 1) c5', .int .i64 au3], .bool true]) (by simp [results, Try.results18, go_sem, *]) rfl ?_
                      clear f0 f1 f2
                      have HX9 := Lib.hid (show nextAuto au3 ⟨1, pn, pt⟩ = au3 from by unfold nextAuto; dsimp only; rw [HBA.out, Bool.and_false]; rfl)
                      have hM := HM.out
                      subst hM
                      have S90 := Lib.hid (Bag.bag_of_one S22.out 7 (r := (LI.mk ⟨1, pn, pt⟩ a1 c1 rl).row) rfl)
                      have S91 := Lib.hid (Bag.bag_join S90.out 5 7 (by decide) rfl rfl)
                      have S92 := Lib.hid (Bag.bag_perm S91.out 5 rfl (rowsI_ins ys k ⟨⟨1, pn, pt⟩, a1, c1, rl⟩))
                      have hlz : (ys.take k ++ ⟨⟨1, pn, pt⟩, a1, c1, rl⟩ :: ys.drop k).length = k + 1 := by rw [List.length_append, List.length_cons, List.length_take, List.length_drop]; omega
                      have hcz : cellsI (ys.take k ++ ⟨⟨1, pn, pt⟩, a1, c1, rl⟩ :: ys.drop k) = (cellsI (ys.take k) ++ ([.int .i64 1, .int .i64 pn, .string pt, .slice a1 rl.length c1])) ++ cellsI [] := by rw [cellsI_append, cellsI_cons]; rw [List.drop_of_length_le (show ys.length ≤ k by omega)]; simp [cellsI]
                      have S93 := Lib.hid (Bag.bag_of_one S92.out 6 (r := rowI a5' c5' (ys.take k ++ ⟨⟨1, pn, pt⟩, a1, c1, rl⟩ :: ys.drop k)) (by unfold RowS.res rowI; dsimp only; rw [hlz, hcz]; rfl))
                      have S94 := Lib.hid (Bag.bag_join S93.out 6 5 (by decide) rfl rfl)
                      refine ⟨⟨nm3, a5', c5', ys.take k ++ ⟨⟨1, pn, pt⟩, a1, c1, rl⟩ :: ys.drop k, au3⟩, ?_, ?_, ?_, S94.out.old⟩
                      · rw [HE.out]; unfold LS.v LS.cells; dsimp only; rw [hlz]
                      · rw [HE.out, HX9.out, HPOS.out]; unfold LS.con; dsimp only; rw [conI_ins, HCE.out]; rfl
                      · have h := Bag.bag_from S94.out 6 rfl
                        unfold LS.rows; exact h
                    | true =>
                      go_wp2_with fail
                      go_at_call 69
                      refine (HIA.out _).mono ?_
                      rintro e w14 ⟨rfl, rfl⟩
                      clear f0 f1 f2 f3 f4 f5 f6 f7 f8 f9 f10 f11 f12
                      have f0 : World.cell? _ ⟨w.heap.size, 0, none⟩ = some (.string nm3) := Bag.cell_at S21.out 0 rfl 0 rfl
                      have f1 : World.cell? _ ⟨w.heap.size, 1, none⟩ = some (.slice a k c) := Bag.cell_at S21.out 0 rfl 1 rfl
                      have f2 : World.cell? _ ⟨w.heap.size, 2, none⟩ = some (.int .i64 au3) := Bag.cell_at S21.out 0 rfl 2 rfl
                      have f3 : World.cell? _ ⟨w.heap.size + 1, 0, none⟩ = some (.int .i64 1) := Bag.cell_at S21.out 1 rfl 0 rfl
                      have f4 : World.cell? _ ⟨w.heap.size + 1, 1, none⟩ = some (.int .i64 pn) := Bag.cell_at S21.out 1 rfl 1 rfl
                      have f5 : World.cell? _ ⟨w.heap.size + 1, 2, none⟩ = some (.string pt) := Bag.cell_at S21.out 1 rfl 2 rfl
                      have f6 : World.cell? _ ⟨w.heap.size + 1 + 1, 0, none⟩ = some (.slice ra M rc) := Bag.cell_at S21.out 2 rfl 0 rfl
                      have f7 : World.cell? _ ⟨w.heap.size + 1 + 1 + 1, 0, none⟩ = some (.string ⟨#[]⟩) := Bag.cell_at S21.out 3 rfl 0 rfl
                      have f8 : World.cell? _ ⟨w.heap.size + 1 + 1 + 1, 1, none⟩ = some (.slice none 0 0) := Bag.cell_at S21.out 3 rfl 1 rfl
                      have f9 : World.cell? _ ⟨w.heap.size + 1 + 1 + 1, 2, none⟩ = some (.int .i64 0) := Bag.cell_at S21.out 3 rfl 2 rfl
                      have f10 : World.cell? _ ⟨g1, 0, none⟩ = some (.string nm3) := Bag.cell_at S21.out 4 rfl 0 rfl
                      have f11 : World.cell? _ ⟨g1, 1, none⟩ = some (.slice a5' (k + 1) c5') := Bag.cell_at S21.out 4 rfl 1 rfl
                      have f12 : World.cell? _ ⟨g1, 2, none⟩ = some (.int .i64 au3) := Bag.cell_at S21.out 4 rfl 2 rfl
                      have z0 := Bag.free_at S21.out 4 rfl 0
                      have z1 := Bag.free_at S21.out 4 rfl 1
                      have z2 := Bag.free_at S21.out 4 rfl 2
                      go_upto_region 18 with fail
                      clear f0 f1 f2 f3 f4 f5 f6 f7 f8 f9 f10 f11 f12 z0 z1 z2
                      have S22 := Lib.hid (show Sl.Sep w _ [L4.boxR w.heap.size 26 #[.string nm3, .slice a k c, .int .i64 au3], L4.boxR (w.heap.size + 1) 28 #[.int .i64 1, .int .i64 pn, .string pt], L4.boxR (w.heap.size + 1 + 1) 31 #[.slice ra M rc], L4.boxR (w.heap.size + 1 + 1 + 1) 26 #[.string ⟨#[]⟩, .slice none 0 0, .int .i64 0], L4.boxR g1 26 #[.string nm3, .slice a5' (k + 1) c5', .int .i64 pn], Bag.bag (rowsI ys), Sv.ownV 40 4 a5' c5' (k + 1) ((cellsI (ys.take k) ++ ([.int .i64 1, .int .i64 pn, .string pt, .slice a1 M c1])) ++ cellsI []), Sv.ownV 102 2 a1 c1 M (cellsF rl)] from L5.put_box5 (S21.out) 4 rfl 2 (.int .i64 pn))
                      clear S21
                      have f0 : World.cell? _ ⟨w.heap.size, 0, none⟩ = some (.string nm3) := Bag.cell_at S22.out 0 rfl 0 rfl
                      have f1 : World.cell? _ ⟨w.heap.size, 1, none⟩ = some (.slice a k c) := Bag.cell_at S22.out 0 rfl 1 rfl
                      have f2 : World.cell? _ ⟨w.heap.size, 2, none⟩ = some (.int .i64 au3) := Bag.cell_at S22.out 0 rfl 2 rfl
                      have f3 : World.cell? _ ⟨w.heap.size + 1, 0, none⟩ = some (.int .i64 1) := Bag.cell_at S22.out 1 rfl 0 rfl
                      have f4 : World.cell? _ ⟨w.heap.size + 1, 1, none⟩ = some (.int .i64 pn) := Bag.cell_at S22.out 1 rfl 1 rfl
                      have f5 : World.cell? _ ⟨w.heap.size + 1, 2, none⟩ = some (.string pt) := Bag.cell_at S22.out 1 rfl 2 rfl
                      have f6 : World.cell? _ ⟨w.heap.size + 1 + 1, 0, none⟩ = some (.slice ra M rc) := Bag.cell_at S22.out 2 rfl 0 rfl
                      have f7 : World.cell? _ ⟨w.heap.size + 1 + 1 + 1, 0, none⟩ = some (.string ⟨#[]⟩) := Bag.cell_at S22.out 3 rfl 0 rfl
                      have f8 : World.cell? _ ⟨w.heap.size + 1 + 1 + 1, 1, none⟩ = some (.slice none 0 0) := Bag.cell_at S22.out 3 rfl 1 rfl
                      have f9 : World.cell? _ ⟨w.heap.size + 1 + 1 + 1, 2, none⟩ = some (.int .i64 0) := Bag.cell_at S22.out 3 rfl 2 rfl
                      have f10 : World.cell? _ ⟨g1, 0, none⟩ = some (.string nm3) := Bag.cell_at S22.out 4 rfl 0 rfl
                      have f11 : World.cell? _ ⟨g1, 1, none⟩ = some (.slice a5' (k + 1) c5') := Bag.cell_at S22.out 4 rfl 1 rfl
                      have f12 : World.cell? _ ⟨g1, 2, none⟩ = some (.int .i64 pn) := Bag.cell_at S22.out 4 rfl 2 rfl
                      have z0 := Bag.free_at S22.out 3 rfl 0
                      have z1 := Bag.free_at S22.out 3 rfl 1
                      have z2 := Bag.free_at S22.out 3 rfl 2
                      go_wp2_with fail
                      clear f0 f1 f2 f3 f4 f5 f6 f7 f8 f9 f10 f11 f12 z0 z1 z2
                      have S23 := Lib.hid (show Sl.Sep w _ [L4.boxR w.heap.size 26 #[.string nm3, .slice a k c, .int .i64 au3], L4.boxR (w.heap.size + 1) 28 #[.int .i64 1, .int .i64 pn, .string pt], L4.boxR (w.heap.size + 1 + 1) 31 #[.slice ra M rc], L4.boxR (w.heap.size + 1 + 1 + 1) 26 #[.string nm3, .slice a5' (k + 1) c5', .int .i64 pn], L4.boxR g1 26 #[.string nm3, .slice a5' (k + 1) c5', .int .i64 pn], Bag.bag (rowsI ys), Sv.ownV 40 4 a5' c5' (k + 1) ((cellsI (ys.take k) ++ ([.int .i64 1, .int .i64 pn, .string pt, .slice a1 M c1])) ++ cellsI []), Sv.ownV 102 2 a1 c1 M (cellsF rl)] from L5.put_box5 (L5.put_box5 (L5.put_box5 (S22.out) 3 rfl 0 (.string nm3)) 3 rfl 1 (.slice a5' (k + 1) c5')) 3 rfl 2 (.int .i64 pn))
                      clear S22
                      have f0 : World.cell? _ ⟨w.heap.size + 1 + 1 + 1, 0, none⟩ = some (.string nm3) := Bag.cell_at S23.out 3 rfl 0 rfl
                      have f1 : World.cell? _ ⟨w.heap.size + 1 + 1 + 1, 1, none⟩ = some (.slice a5' (k + 1) c5') := Bag.cell_at S23.out 3 rfl 1 rfl
                      have f2 : World.cell? _ ⟨w.heap.size + 1 + 1 + 1, 2, none⟩ = some (.int .i64 pn) := Bag.cell_at S23.out 3 rfl 2 rfl
                      refine bodyPost_ret (v := .tuple #[.agg #[.string nm3, .slice a5' (k + 1) c5', .int .i64 pn], .bool true]) (by simp [results, Try.results18, go_sem, *]) rfl ?_
                      clear f0 f1 f2
                      have HX9 := Lib.hid (show nextAuto au3 ⟨1, pn, pt⟩ = pn from by unfold nextAuto; dsimp only; rw [HBA.out]; rfl)
                      have hM := HM.out
                      subst hM
                      have S90 := Lib.hid (Bag.bag_of_one S23.out 7 (r := (LI.mk ⟨1, pn, pt⟩ a1 c1 rl).row) rfl)
                      have S91 := Lib.hid (Bag.bag_join S90.out 5 7 (by decide) rfl rfl)
                      have S92 := Lib.hid (Bag.bag_perm S91.out 5 rfl (rowsI_ins ys k ⟨⟨1, pn, pt⟩, a1, c1, rl⟩))
                      have hlz : (ys.take k ++ ⟨⟨1, pn, pt⟩, a1, c1, rl⟩ :: ys.drop k).length = k + 1 := by rw [List.length_append, List.length_cons, List.length_take, List.length_drop]; omega
                      have hcz : cellsI (ys.take k ++ ⟨⟨1, pn, pt⟩, a1, c1, rl⟩ :: ys.drop k) = (cellsI (ys.take k) ++ ([.int .i64 1, .int .i64 pn, .string pt, .slice a1 rl.length c1])) ++ cellsI [] := by rw [cellsI_append, cellsI_cons]; rw [List.drop_of_length_le (show ys.length ≤ k by omega)]; simp [cellsI]
                      have S93 := Lib.hid (Bag.bag_of_one S92.out 6 (r := rowI a5' c5' (ys.take k ++ ⟨⟨1, pn, pt⟩, a1, c1, rl⟩ :: ys.drop k)) (by unfold RowS.res rowI; dsimp only; rw [hlz, hcz]; rfl))
                      have S94 := Lib.hid (Bag.bag_join S93.out 6 5 (by decide) rfl rfl)
                      refine ⟨⟨nm3, a5', c5', ys.take k ++ ⟨⟨1, pn, pt⟩, a1, c1, rl⟩ :: ys.drop k, pn⟩, ?_, ?_, ?_, S94.out.old⟩
                      · rw [HE.out]; unfold LS.v LS.cells; dsimp only; rw [hlz]
                      · rw [HE.out, HX9.out, HPOS.out]; unfold LS.con; dsimp only; rw [conI_ins, HCE.out]; rfl
                      · have h := Bag.bag_from S94.out 6 rfl
                        unfold LS.rows; exact h
                  · have hk2 : (pk == 1) = false := by simpa using hk1
                    clear f0 f1 f2 f3 f4 f5 f6 f7 f8 f9 f10 f11 f12
                    have f0 : World.cell? _ ⟨w.heap.size, 0, none⟩ = some (.string nm3) := Bag.cell_at S21.out 0 rfl 0 rfl
                    have f1 : World.cell? _ ⟨w.heap.size, 1, none⟩ = some (.slice a k c) := Bag.cell_at S21.out 0 rfl 1 rfl
                    have f2 : World.cell? _ ⟨w.heap.size, 2, none⟩ = some (.int .i64 au3) := Bag.cell_at S21.out 0 rfl 2 rfl
                    have f3 : World.cell? _ ⟨w.heap.size + 1, 0, none⟩ = some (.int .i64 pk) := Bag.cell_at S21.out 1 rfl 0 rfl
                    have f4 : World.cell? _ ⟨w.heap.size + 1, 1, none⟩ = some (.int .i64 pn) := Bag.cell_at S21.out 1 rfl 1 rfl
                    have f5 : World.cell? _ ⟨w.heap.size + 1, 2, none⟩ = some (.string pt) := Bag.cell_at S21.out 1 rfl 2 rfl
                    have f6 : World.cell? _ ⟨w.heap.size + 1 + 1, 0, none⟩ = some (.slice ra M rc) := Bag.cell_at S21.out 2 rfl 0 rfl
                    have f7 : World.cell? _ ⟨w.heap.size + 1 + 1 + 1, 0, none⟩ = some (.string ⟨#[]⟩) := Bag.cell_at S21.out 3 rfl 0 rfl
                    have f8 : World.cell? _ ⟨w.heap.size + 1 + 1 + 1, 1, none⟩ = some (.slice none 0 0) := Bag.cell_at S21.out 3 rfl 1 rfl
                    have f9 : World.cell? _ ⟨w.heap.size + 1 + 1 + 1, 2, none⟩ = some (.int .i64 0) := Bag.cell_at S21.out 3 rfl 2 rfl
                    have f10 : World.cell? _ ⟨g1, 0, none⟩ = some (.string nm3) := Bag.cell_at S21.out 4 rfl 0 rfl
                    have f11 : World.cell? _ ⟨g1, 1, none⟩ = some (.slice a5' (k + 1) c5') := Bag.cell_at S21.out 4 rfl 1 rfl
                    have f12 : World.cell? _ ⟨g1, 2, none⟩ = some (.int .i64 au3) := Bag.cell_at S21.out 4 rfl 2 rfl
                    have z0 := Bag.free_at S21.out 3 rfl 0
                    have z1 := Bag.free_at S21.out 3 rfl 1
                    have z2 := Bag.free_at S21.out 3 rfl 2
                    go_wp2_with fail
                    clear f0 f1 f2 f3 f4 f5 f6 f7 f8 f9 f10 f11 f12 z0 z1 z2
                    have S22 := Lib.hid (show Sl.Sep w _ [L4.boxR w.heap.size 26 #[.string nm3, .slice a k c, .int .i64 au3], L4.boxR (w.heap.size + 1) 28 #[.int .i64 pk, .int .i64 pn, .string pt], L4.boxR (w.heap.size + 1 + 1) 31 #[.slice ra M rc], L4.boxR (w.heap.size + 1 + 1 + 1) 26 #[.string nm3, .slice a5' (k + 1) c5', .int .i64 au3], L4.boxR g1 26 #[.string nm3, .slice a5' (k + 1) c5', .int .i64 au3], Bag.bag (rowsI ys), Sv.ownV 40 4 a5' c5' (k + 1) ((cellsI (ys.take k) ++ ([.int .i64 pk, .int .i64 pn, .string pt, .slice a1 M c1])) ++ cellsI []), Sv.ownV 102 2 a1 c1 M (cellsF rl)] from L5.put_box5 (L5.put_box5 (L5.put_box5 (S21.out) 3 rfl 0 (.string nm3)) 3 rfl 1 (.slice a5' (k + 1) c5')) 3 rfl 2 (.int .i64 au3))
                    clear S21
                    have f0 : World.cell? _ ⟨w.heap.size + 1 + 1 + 1, 0, none⟩ = some (.string nm3) := Bag.cell_at S22.out 3 rfl 0 rfl
                    have f1 : World.cell? _ ⟨w.heap.size + 1 + 1 + 1, 1, none⟩ = some (.slice a5' (k + 1) c5') := Bag.cell_at S22.out 3 rfl 1 rfl
                    have f2 : World.cell? _ ⟨w.heap.size + 1 + 1 + 1, 2, none⟩ = some (.int .i64 au3) := Bag.cell_at S22.out 3 rfl 2 rfl
                    refine bodyPost_ret (v := .tuple #[.agg #[.string nm3, .slice a5' (k + 1) c5', .int .i64 au3], .bool true]) (by simp [results, Try.results18, go_sem, *]) rfl ?_
                    clear f0 f1 f2
                    have HX9 := Lib.hid (show nextAuto au3 ⟨pk, pn, pt⟩ = au3 from by unfold nextAuto; dsimp only; rw [hk2]; rfl)
                    have hM := HM.out
                    subst hM
                    have S90 := Lib.hid (Bag.bag_of_one S22.out 7 (r := (LI.mk ⟨pk, pn, pt⟩ a1 c1 rl).row) rfl)
                    have S91 := Lib.hid (Bag.bag_join S90.out 5 7 (by decide) rfl rfl)
                    have S92 := Lib.hid (Bag.bag_perm S91.out 5 rfl (rowsI_ins ys k ⟨⟨pk, pn, pt⟩, a1, c1, rl⟩))
                    have hlz : (ys.take k ++ ⟨⟨pk, pn, pt⟩, a1, c1, rl⟩ :: ys.drop k).length = k + 1 := by rw [List.length_append, List.length_cons, List.length_take, List.length_drop]; omega
                    have hcz : cellsI (ys.take k ++ ⟨⟨pk, pn, pt⟩, a1, c1, rl⟩ :: ys.drop k) = (cellsI (ys.take k) ++ ([.int .i64 pk, .int .i64 pn, .string pt, .slice a1 rl.length c1])) ++ cellsI [] := by rw [cellsI_append, cellsI_cons]; rw [List.drop_of_length_le (show ys.length ≤ k by omega)]; simp [cellsI]
                    have S93 := Lib.hid (Bag.bag_of_one S92.out 6 (r := rowI a5' c5' (ys.take k ++ ⟨⟨pk, pn, pt⟩, a1, c1, rl⟩ :: ys.drop k)) (by unfold RowS.res rowI; dsimp only; rw [hlz, hcz]; rfl))
                    have S94 := Lib.hid (Bag.bag_join S93.out 6 5 (by decide) rfl rfl)
                    refine ⟨⟨nm3, a5', c5', ys.take k ++ ⟨⟨pk, pn, pt⟩, a1, c1, rl⟩ :: ys.drop k, au3⟩, ?_, ?_, ?_, S94.out.old⟩
                    · rw [HE.out]; unfold LS.v LS.cells; dsimp only; rw [hlz]
                    · rw [HE.out, HX9.out, HPOS.out]; unfold LS.con; dsimp only; rw [conI_ins, HCE.out]; rfl
                    · have h := Bag.bag_from S94.out 6 rfl
                      unfold LS.rows; exact h
end Go.Proofs.Ytkfejjoehgipmaa.L6
