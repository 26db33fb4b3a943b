/-
  What the law FnExactIsDatabase needs, laid by my program lawpack.py, part 4: the texts L7Ib, L7Ic, L8Ia, one behind the other; each begins with its own words.
-/
import Derived.Test.YtboefioalkjdaaaFnExactIsDatabaseP3
set_option linter.unusedSimpArgs false
/-
  The contracts of the program's sortByInsertion and IndexOn. Conditions: keys' texts of at most 2^40 bytes, at most 2^20 fields and items. (Written by my program gen_l7g.py.)
-/
namespace Go.Proofs.Ytboefioalkjdaaa.L7
set_option maxRecDepth 100000
open L4 (K isK cmpK R inR encU)
open L5 (F isR isN cellsF encR eqR Small getO getN getB)
open L6
open Go.ChangeShapes Go.WideShapes Go.ChangeAt Go.RowKit Mem Sl Ex L2 Sv Bag
set_option linter.unusedVariables false
set_option linter.unusedSimpArgs false

def Prec (Fn gc g : Nat) (t : List UInt8) (ys : List LI) (w : World) : Prop :=
  ∀ a ∈ ys, ∀ b ∈ ys, ∀ w', Turned [g] w w' → Calls Try.prog Fn #[.agg #[.int .i64 a.k.kind, .int .i64 a.k.n, .string a.k.text, .slice a.a a.l.length a.c], .agg #[.int .i64 b.k.kind, .int .i64 b.k.n, .string b.k.text, .slice b.a b.l.length b.c], .pointer (some ⟨gc, 0, none⟩)] w' fun e w'' => e = .returned (.bool (less7 t a.con b.con)) ∧ Below w'.heap.size w' w''
theorem four_at {w : World} {B g : Nat} {zs : List LI} (h : Reads w B (some ⟨g, 0, none⟩) (cellsI zs)) (q : Nat) (x : LI) (hx : zs[q]? = some x) :
    w.cell? ⟨g, q * 4, none⟩ = some (.int .i64 x.k.kind) ∧ w.cell? ⟨g, q * 4 + 1, none⟩ = some (.int .i64 x.k.n) ∧ w.cell? ⟨g, q * 4 + 2, none⟩ = some (.string x.k.text) ∧ w.cell? ⟨g, q * 4 + 3, none⟩ = some (.slice x.a x.l.length x.c) := by
  have h2 := readsI_at h q x hx
  simp only [Addr.add_lit, Nat.zero_add] at h2
  exact h2
theorem cells_swap1 {srt R : List LI} {q : Nat} {y x : LI} (hy : srt[q]? = some y) : cellsI (srt.take (q + 1) ++ x :: (srt.drop (q + 1) ++ R)) = cellsI (srt.take q) ++ (cellsI [y] ++ (cellsI [x] ++ cellsI (srt.drop (q + 1) ++ R))) := by
  obtain ⟨hq, rfl⟩ := List.getElem?_eq_some_iff.1 hy
  rw [List.take_succ_eq_append_getElem hq, ← cellsI_append, ← cellsI_append, ← cellsI_append]
  congr 1
  simp only [List.append_assoc, List.singleton_append, List.cons_append, List.nil_append]
theorem cells_swap2 {srt R : List LI} {q : Nat} {y x : LI} (hy : srt[q]? = some y) : cellsI (srt.take q ++ x :: (srt.drop q ++ R)) = (cellsI (srt.take q) ++ cellsI [x]) ++ (cellsI [y] ++ cellsI (srt.drop (q + 1) ++ R)) := by
  obtain ⟨hq, rfl⟩ := List.getElem?_eq_some_iff.1 hy
  rw [List.drop_eq_getElem_cons hq, ← cellsI_append, ← cellsI_append, ← cellsI_append]
  congr 1
  simp only [List.append_assoc, List.singleton_append, List.cons_append, List.nil_append]
def srtI (t : List UInt8) (xs : List It) : List It := xs.foldl (insX t) []
theorem srtI_take {xs : List It} {t : List UInt8} {k : Nat} {x : It} (h : xs[k]? = some x) : srtI t (xs.take (k + 1)) = insX t (srtI t (xs.take k)) x := by
  obtain ⟨hk, rfl⟩ := List.getElem?_eq_some_iff.1 h
  unfold srtI
  rw [List.take_succ_eq_append_getElem hk, List.foldl_append]
  rfl
theorem idx_srt (xs : List It) (t : List UInt8) : idxI xs t = srtI t (xs.filter fun x => getB x.l t) := by
  unfold idxI srtI
  rw [List.foldl_filter]
  rfl
theorem conI_ins7 (srt : List LI) (x : LI) (j : Nat) : conI (srt.take j ++ x :: srt.drop j) = (conI srt).take j ++ x.con :: (conI srt).drop j := by
  simp [conI, List.map_take, List.map_drop]
theorem perm_ins (srt : List LI) (x : LI) (j : Nat) (R ys : List LI) (h : (srt ++ x :: R).Perm ys) : (srt.take j ++ x :: srt.drop j ++ R).Perm ys := by
  refine List.Perm.trans ?_ h
  have h1 : (srt.take j ++ x :: srt.drop j).Perm (x :: srt) := by
    have h2 := List.perm_middle (a := x) (l₁ := srt.take j) (l₂ := srt.drop j)
    rwa [List.take_append_drop] at h2
  have h3 : (srt ++ x :: R).Perm (x :: (srt ++ R)) := List.perm_middle
  exact (h1.append_right R).trans h3.symm

set_option maxHeartbeats 8000000 in
theorem sort_any (g gc c : Nat) (ft : List UInt8) (ys : List LI) (hl : ys.length ≤ 1048576) (W w : World) (S : Sl.Sep W w [Sv.ownV 72 4 (some ⟨g, 0, none⟩) c ys.length (cellsI ys), Run.restR W w g]) (hp : Prec 106 gc g ft ys w) :
    Calls Try.prog 105 #[.slice (some ⟨g, 0, none⟩) ys.length c, .func (.func 106) #[] #[.pointer (some ⟨gc, 0, none⟩)]] w fun e w' => ∃ zs, e = .returned (.tuple #[]) ∧ zs.Perm ys ∧ conI zs = srtI ft (conI ys) ∧ Sl.Sep W w' [Sv.ownV 72 4 (some ⟨g, 0, none⟩) c ys.length (cellsI zs), Run.restR W w g] := by
  obtain ⟨i0, hi1, hi2, hi3, hi4⟩ := itemInfo
  have HI := Lib.hid (And.intro hi1 (And.intro hi2 (And.intro hi3 hi4)))
  clear hi1 hi2 hi3 hi4
  have HB0 := Lib.hid S.old
  have HP := Lib.hid hp
  obtain ⟨N, hN⟩ : ∃ n, n = ys.length := ⟨_, rfl⟩
  rw [← hN] at S hl
  have hl' : (N : Int) ≤ 1048576 := by omega
  have HN := Lib.hid hN
  have HCN := Lib.hid (Sv.own_at S 0 rfl).cap
  rw [← hN]
  have S1 := Lib.hid S
  clear hN S hp
  go_enter Try.func105, Try.ntmps105
  go_wp2_with fail
  go_loopw [8] (fun i wr => ∃ (k : Nat) (srt : List LI), k ≤ N ∧ i = .int .i64 k ∧ Hid ((srt.length = k ∧ conI srt = srtI ft ((conI ys).take k) ∧ (srt ++ ys.drop k).Perm ys) ∧ Sl.Sep W wr [Sv.ownV 72 4 (some ⟨g, 0, none⟩) c N (cellsI (srt ++ ys.drop k)), Run.restR W w g])) (fun i _ => N - (intOf i).toNat)
  case atStart => exact ⟨0, [], Nat.zero_le _, rfl, And.intro ⟨rfl, rfl, List.Perm.refl _⟩ S1.out⟩
  case round =>
    obtain ⟨k, srt, hk, rfl, hrel⟩ := hrel
    have HC := Lib.hid hrel.out.1
    have S2 := Lib.hid hrel.out.2
    clear hrel S1
    by_cases hlt : (k : Int) < (N : Int)
    · skip
      have hkl : k < ys.length := by have := HN.out; omega
      obtain ⟨x, hx⟩ : ∃ x, x = ys[k] := ⟨_, rfl⟩
      have HX := Lib.hid (show ys[k]? = some x from by rw [hx]; exact List.getElem?_eq_getElem hkl)
      have HD := Lib.hid (show ys.drop k = x :: ys.drop (k + 1) from by rw [hx, List.drop_eq_getElem_cons hkl])
      have HMEM := Lib.hid (show x ∈ ys from by rw [hx]; exact List.getElem_mem hkl)
      have HXC := Lib.hid (show (conI ys)[k]? = some x.con from con_of HX.out)
      have HSL := Lib.hid HC.out.1
      have HPM := Lib.hid (show (srt ++ x :: ys.drop (k + 1)).Perm ys from by rw [← HD.out]; exact HC.out.2.2)
      have HSM := Lib.hid (fun y (h : y ∈ srt) => HPM.out.subset (List.mem_append_left _ h))
      clear hx
      obtain ⟨⟨kd, n, t⟩, ia, ic, l⟩ := x
      have S3 := Lib.hid (show Sl.Sep W _ [Sv.ownV 72 4 (some ⟨g, 0, none⟩) c N (cellsI (srt.take k ++ ⟨⟨kd, n, t⟩, ia, ic, l⟩ :: (srt.drop k ++ ys.drop (k + 1)))), Run.restR W w g] from (by have h := S2.out; rw [HD.out] at h; rw [List.take_of_length_le (Nat.le_of_eq HSL.out), List.drop_of_length_le (Nat.le_of_eq HSL.out)]; exact h))
      clear S2
      go_wp2_with fail
      go_loopw [5] (fun v wr2 => ∃ j : Nat, j ≤ k ∧ v = .int .i64 j ∧ Hid (backP ft (⟨⟨kd, n, t⟩, l⟩ : It) (conI srt) k = backP ft (⟨⟨kd, n, t⟩, l⟩ : It) (conI srt) j ∧ Sl.Sep W wr2 [Sv.ownV 72 4 (some ⟨g, 0, none⟩) c N (cellsI (srt.take j ++ ⟨⟨kd, n, t⟩, ia, ic, l⟩ :: (srt.drop j ++ ys.drop (k + 1)))), Run.restR W w g])) (fun v _ => (intOf v).toNat)
      case atStart => exact ⟨k, Nat.le_refl _, rfl, And.intro rfl S3.out⟩
      case round =>
        obtain ⟨j, hjk, rfl, hrel⟩ := hrel
        have HBP := Lib.hid hrel.out.1
        have S4 := Lib.hid hrel.out.2
        clear hrel S3
        by_cases hj0 : j = 0
        · subst hj0
          go_upto_region 4 with fail
          refine wp_region_held_drew (S := (fun w' => True)) (by kernel_rfl) trivial (fun hS => ?_)
          have S5 := Lib.hid (show Sl.Sep W _ [Sv.ownV 72 4 (some ⟨g, 0, none⟩) c N (cellsI (srt.take 0 ++ ⟨⟨kd, n, t⟩, ia, ic, l⟩ :: (srt.drop 0 ++ ys.drop (k + 1)))), Run.restR W w g] from Bag.drew1 S4.out)
          clear S4
          generalize World.drew _ = w1 at hS S5 ⊢
          refine tk 0 rfl ?_
          try simp only [zp0, zp1, zp2, zp3, zp4]
          refine tk 1 rfl ?_
          try simp only [zp0, zp1, zp2, zp3, zp4]
          refine tk 2 rfl ?_
          try simp only [zp0, zp1, zp2, zp3, zp4]
          refine sk 3 rfl ?_
          try simp only [zp0, zp1, zp2, zp3, zp4]
          refine sk 4 rfl ?_
          try simp only [zp0, zp1, zp2, zp3, zp4]
          refine sk 5 rfl ?_
          try simp only [zp0, zp1, zp2, zp3, zp4]
          refine sk 6 rfl ?_
          try simp only [zp0, zp1, zp2, zp3, zp4]
          refine sk 7 rfl ?_
          try simp only [zp0, zp1, zp2, zp3, zp4]
          refine sk 8 rfl ?_
          try simp only [zp0, zp1, zp2, zp3, zp4]
          refine sk 9 rfl ?_
          try simp only [zp0, zp1, zp2, zp3, zp4]
          refine sk 10 rfl ?_
          try simp only [zp0, zp1, zp2, zp3, zp4]
          refine sk 11 rfl ?_
          try simp only [zp0, zp1, zp2, zp3, zp4]
          refine sk 12 rfl ?_
          try simp only [zp0, zp1, zp2, zp3, zp4]
          refine Reg.skip_one (i := 13) rfl (by kernel_rfl) (by rfl) (by assumption) ?_
          try simp only [zp0, zp1, zp2, zp3, zp4]
          refine tk 14 rfl ?_
          try simp only [zp0, zp1, zp2, zp3, zp4]
          refine wpAnyH_done (by kernel_rfl) ?_ _
          have HBJ := Lib.hid (show backP ft (⟨⟨kd, n, t⟩, l⟩ : It) (conI srt) k = 0 from by rw [HBP.out]; rfl)
          go_wp2_with fail
          go_roundw
          case rel =>
            refine ⟨k + 1, srt.take 0 ++ ⟨⟨kd, n, t⟩, ia, ic, l⟩ :: srt.drop 0, by omega, by go_num, And.intro ⟨?_, ?_, ?_⟩ ?_⟩
            · have := HSL.out; simp only [List.length_append, List.length_cons, List.length_take, List.length_drop]; omega
            · rw [srtI_take HXC.out, ← HC.out.2.1, conI_ins7]; unfold insX; rw [conI_length, HSL.out, show backP ft (LI.con ⟨⟨kd, n, t⟩, ia, ic, l⟩) (conI srt) k = 0 from HBJ.out] <;> rfl
            · exact perm_ins srt _ _ _ _ HPM.out
            · rw [List.append_assoc, List.cons_append]; exact S5.out
          case measure => simp [intOf]; omega
        · skip
          obtain ⟨q, rfl⟩ : ∃ q, j = q + 1 := ⟨j - 1, by omega⟩
          have hqs : q < srt.length := by have := HSL.out; omega
          skip
          obtain ⟨y, hy⟩ : ∃ y, srt[q]? = some y := ⟨_, List.getElem?_eq_getElem hqs⟩
          obtain ⟨⟨kd2, n2, t2⟩, ia2, ic2, l2⟩ := y
          have HY := Lib.hid hy
          have HYC := Lib.hid (show (conI srt)[q]? = some (⟨⟨kd2, n2, t2⟩, l2⟩ : It) from con_of hy)
          have HYM := Lib.hid (HSM.out _ (List.mem_of_getElem? hy))
          have HL1 := Lib.hid (show (srt.take (q + 1) ++ ⟨⟨kd, n, t⟩, ia, ic, l⟩ :: (srt.drop (q + 1) ++ ys.drop (k + 1)))[q + 1]? = some ⟨⟨kd, n, t⟩, ia, ic, l⟩ from by rw [List.getElem?_append_right (by rw [List.length_take]; omega)]; rw [show q + 1 - (srt.take (q + 1)).length = 0 by rw [List.length_take]; omega]; rfl)
          have HL2 := Lib.hid (show (srt.take (q + 1) ++ ⟨⟨kd, n, t⟩, ia, ic, l⟩ :: (srt.drop (q + 1) ++ ys.drop (k + 1)))[q]? = some ⟨⟨kd2, n2, t2⟩, ia2, ic2, l2⟩ from by rw [List.getElem?_append_left (by rw [List.length_take]; omega), List.getElem?_take, if_pos (Nat.lt_succ_self q)]; exact hy)
          clear hy
          have hsub : ((q + 1 : Nat) : Int) - 1 = (q : Int) := by omega
          have hi0 : 0 < ((q + 1 : Nat) : Int) := by omega
          have hqN : (q : Int) < (N : Int) := by omega
          have hqN1 : (q : Int) + 1 < (N : Int) := by omega
          have hq1 : (0 : Int) ≤ (q : Int) + 1 := by omega
          have hwr : IntKind.i64.wrap (q : Int) = (q : Int) := IntWalk.i64_in _ ⟨by omega, by omega⟩
          obtain ⟨b, hb⟩ : ∃ b, less7 ft (⟨⟨kd, n, t⟩, l⟩ : It) ⟨⟨kd2, n2, t2⟩, l2⟩ = b := ⟨_, rfl⟩
          go_upto_region 4 with fail
          refine wp_region_held_drew (S := (fun w' => World.cell? w' ⟨g, (q + 1) * 4, none⟩ = some (.int .i64 kd) ∧ World.cell? w' ⟨g, (q + 1) * 4 + 1, none⟩ = some (.int .i64 n) ∧ World.cell? w' ⟨g, (q + 1) * 4 + 2, none⟩ = some (.string t) ∧ World.cell? w' ⟨g, (q + 1) * 4 + 3, none⟩ = some (.slice ia l.length ic) ∧ World.cell? w' ⟨g, q * 4, none⟩ = some (.int .i64 kd2) ∧ World.cell? w' ⟨g, q * 4 + 1, none⟩ = some (.int .i64 n2) ∧ World.cell? w' ⟨g, q * 4 + 2, none⟩ = some (.string t2) ∧ World.cell? w' ⟨g, q * 4 + 3, none⟩ = some (.slice ia2 l2.length ic2))) (by kernel_rfl) ⟨(four_at (Sv.own_at (Bag.drew1 S4.out) 0 rfl).reads _ _ HL1.out).1, (four_at (Sv.own_at (Bag.drew1 S4.out) 0 rfl).reads _ _ HL1.out).2.1, (four_at (Sv.own_at (Bag.drew1 S4.out) 0 rfl).reads _ _ HL1.out).2.2.1, (four_at (Sv.own_at (Bag.drew1 S4.out) 0 rfl).reads _ _ HL1.out).2.2.2, (four_at (Sv.own_at (Bag.drew1 S4.out) 0 rfl).reads _ _ HL2.out).1, (four_at (Sv.own_at (Bag.drew1 S4.out) 0 rfl).reads _ _ HL2.out).2.1, (four_at (Sv.own_at (Bag.drew1 S4.out) 0 rfl).reads _ _ HL2.out).2.2.1, (four_at (Sv.own_at (Bag.drew1 S4.out) 0 rfl).reads _ _ HL2.out).2.2.2⟩ (fun hS => ?_)
          have S5 := Lib.hid (show Sl.Sep W _ [Sv.ownV 72 4 (some ⟨g, 0, none⟩) c N (cellsI (srt.take (q + 1) ++ ⟨⟨kd, n, t⟩, ia, ic, l⟩ :: (srt.drop (q + 1) ++ ys.drop (k + 1)))), Run.restR W w g] from Bag.drew1 S4.out)
          clear S4
          generalize World.drew _ = w1 at hS S5 ⊢
          refine tk 0 rfl ?_
          try simp only [zp0, zp1, zp2, zp3, zp4]
          refine tk 1 rfl ?_
          try simp only [zp0, zp1, zp2, zp3, zp4]
          refine tk 2 rfl ?_
          try simp only [zp0, zp1, zp2, zp3, zp4]
          refine tk 3 rfl ?_
          try simp only [zp0, zp1, zp2, zp3, zp4]
          refine tk 4 rfl ?_
          try simp only [zp0, zp1, zp2, zp3, zp4]
          refine tk 5 rfl ?_
          try simp only [zp0, zp1, zp2, zp3, zp4]
          refine tk 6 rfl ?_
          try simp only [zp0, zp1, zp2, zp3, zp4]
          refine tk 7 rfl ?_
          try simp only [zp0, zp1, zp2, zp3, zp4]
          refine tk 8 rfl ?_
          try simp only [zp0, zp1, zp2, zp3, zp4]
          refine tk 9 rfl ?_
          try simp only [zp0, zp1, zp2, zp3, zp4]
          refine tk 10 rfl ?_
          try simp only [zp0, zp1, zp2, zp3, zp4]
          refine tk 11 rfl ?_
          try simp only [zp0, zp1, zp2, zp3, zp4]
          refine tk 12 rfl ?_
          try simp only [zp0, zp1, zp2, zp3, zp4]
          refine Reg.one_op (i := 13) rfl (by kernel_rfl) (fun K hK => ?_)
          have HLS := HP.out _ HMEM.out _ HYM.out w1 (Run.rest_turned HB0.out S5.out)
          unfold LI.con at HLS
          dsimp only at HLS
          rw [hb] at HLS
          go_simp
          go_at_call 106
          refine HLS.mono ?_
          clear HLS
          rintro e w2 ⟨rfl, hbw⟩
          have S6 := Lib.hid (S5.out.keep hbw)
          clear S5
          clear hbw
          go_wp2_with fail
          refine hK.out _ _ ⟨(four_at (Sv.own_at S6.out 0 rfl).reads _ _ HL1.out).1, (four_at (Sv.own_at S6.out 0 rfl).reads _ _ HL1.out).2.1, (four_at (Sv.own_at S6.out 0 rfl).reads _ _ HL1.out).2.2.1, (four_at (Sv.own_at S6.out 0 rfl).reads _ _ HL1.out).2.2.2, (four_at (Sv.own_at S6.out 0 rfl).reads _ _ HL2.out).1, (four_at (Sv.own_at S6.out 0 rfl).reads _ _ HL2.out).2.1, (four_at (Sv.own_at S6.out 0 rfl).reads _ _ HL2.out).2.2.1, (four_at (Sv.own_at S6.out 0 rfl).reads _ _ HL2.out).2.2.2⟩ (fun hS => ?_)
          clear hK K
          try simp only [zp0, zp1, zp2, zp3, zp4]
          refine tk 14 rfl ?_
          try simp only [zp0, zp1, zp2, zp3, zp4]
          refine wpAnyH_done (by kernel_rfl) ?_ _
          have f0 : World.cell? _ ⟨g, (q + 1) * 4, none⟩ = some (.int .i64 kd) := (four_at (Sv.own_at S6.out 0 rfl).reads _ _ HL1.out).1
          have f1 : World.cell? _ ⟨g, (q + 1) * 4 + 1, none⟩ = some (.int .i64 n) := (four_at (Sv.own_at S6.out 0 rfl).reads _ _ HL1.out).2.1
          have f2 : World.cell? _ ⟨g, (q + 1) * 4 + 2, none⟩ = some (.string t) := (four_at (Sv.own_at S6.out 0 rfl).reads _ _ HL1.out).2.2.1
          have f3 : World.cell? _ ⟨g, (q + 1) * 4 + 3, none⟩ = some (.slice ia l.length ic) := (four_at (Sv.own_at S6.out 0 rfl).reads _ _ HL1.out).2.2.2
          have f4 : World.cell? _ ⟨g, q * 4, none⟩ = some (.int .i64 kd2) := (four_at (Sv.own_at S6.out 0 rfl).reads _ _ HL2.out).1
          have f5 : World.cell? _ ⟨g, q * 4 + 1, none⟩ = some (.int .i64 n2) := (four_at (Sv.own_at S6.out 0 rfl).reads _ _ HL2.out).2.1
          have f6 : World.cell? _ ⟨g, q * 4 + 2, none⟩ = some (.string t2) := (four_at (Sv.own_at S6.out 0 rfl).reads _ _ HL2.out).2.2.1
          have f7 : World.cell? _ ⟨g, q * 4 + 3, none⟩ = some (.slice ia2 l2.length ic2) := (four_at (Sv.own_at S6.out 0 rfl).reads _ _ HL2.out).2.2.2
          cases b with
          | false =>
            have HBJ := Lib.hid (show backP ft (⟨⟨kd, n, t⟩, l⟩ : It) (conI srt) k = q + 1 from by rw [HBP.out]; exact backP_stop HYC.out hb)
            go_wp2_with fail
            go_roundw
            case rel =>
              refine ⟨k + 1, srt.take (q + 1) ++ ⟨⟨kd, n, t⟩, ia, ic, l⟩ :: srt.drop (q + 1), by omega, by go_num, And.intro ⟨?_, ?_, ?_⟩ ?_⟩
              · have := HSL.out; simp only [List.length_append, List.length_cons, List.length_take, List.length_drop]; omega
              · rw [srtI_take HXC.out, ← HC.out.2.1, conI_ins7]; unfold insX; rw [conI_length, HSL.out, show backP ft (LI.con ⟨⟨kd, n, t⟩, ia, ic, l⟩) (conI srt) k = q + 1 from HBJ.out] <;> rfl
              · exact perm_ins srt _ _ _ _ HPM.out
              · rw [List.append_assoc, List.cons_append]; exact S6.out
            case measure => simp [intOf]; omega
          | true =>
            go_upto_region 6 with fail
            clear f0 f1 f2 f3 f4 f5 f6 f7
            refine Reg.wp_region_late (fun w' => True) (fun w' => World.cell? w' ⟨g, (q + 1) * 4, none⟩ = some (.int .i64 kd) ∧ World.cell? w' ⟨g, (q + 1) * 4 + 1, none⟩ = some (.int .i64 n) ∧ World.cell? w' ⟨g, (q + 1) * 4 + 2, none⟩ = some (.string t) ∧ World.cell? w' ⟨g, (q + 1) * 4 + 3, none⟩ = some (.slice ia l.length ic) ∧ World.cell? w' ⟨g, q * 4, none⟩ = some (.int .i64 kd2) ∧ World.cell? w' ⟨g, q * 4 + 1, none⟩ = some (.int .i64 n2) ∧ World.cell? w' ⟨g, q * 4 + 2, none⟩ = some (.string t2) ∧ World.cell? w' ⟨g, q * 4 + 3, none⟩ = some (.slice ia2 l2.length ic2)) 15 (by kernel_rfl) trivial ⟨(four_at (Sv.own_at (Bag.drew1 S6.out) 0 rfl).reads _ _ HL1.out).1, (four_at (Sv.own_at (Bag.drew1 S6.out) 0 rfl).reads _ _ HL1.out).2.1, (four_at (Sv.own_at (Bag.drew1 S6.out) 0 rfl).reads _ _ HL1.out).2.2.1, (four_at (Sv.own_at (Bag.drew1 S6.out) 0 rfl).reads _ _ HL1.out).2.2.2, (four_at (Sv.own_at (Bag.drew1 S6.out) 0 rfl).reads _ _ HL2.out).1, (four_at (Sv.own_at (Bag.drew1 S6.out) 0 rfl).reads _ _ HL2.out).2.1, (four_at (Sv.own_at (Bag.drew1 S6.out) 0 rfl).reads _ _ HL2.out).2.2.1, (four_at (Sv.own_at (Bag.drew1 S6.out) 0 rfl).reads _ _ HL2.out).2.2.2⟩ (fun hS hL => ?_)
            have S7 := Lib.hid (show Sl.Sep W _ [Sv.ownV 72 4 (some ⟨g, 0, none⟩) c N (cellsI (srt.take (q + 1) ++ ⟨⟨kd, n, t⟩, ia, ic, l⟩ :: (srt.drop (q + 1) ++ ys.drop (k + 1)))), Run.restR W w g] from Bag.drew1 S6.out)
            clear S6
            generalize World.drew _ = w3 at hS hL S7 ⊢
            refine Reg.early_op (i := 0) (v := ?_) rfl (by kernel_rfl) (by kernel_rfl) (by kernel_rfl) rfl (by kernel_rfl) (by kernel_rfl) (fun _ _ _ h => h) (by rfl) ?_ hS hL ?_
            rotate_left
            · (intro w hSw hSv; (try dsimp only at hSw); (try dsimp only at hSv); go_simp; try with_reducible rfl)
            try simp only [zp0, zp1, zp2, zp3, zp4]
            refine Reg.early_op (i := 1) (v := ?_) rfl (by kernel_rfl) (by kernel_rfl) (by kernel_rfl) rfl (by kernel_rfl) (by kernel_rfl) (fun _ _ _ h => h) (by rfl) ?_ hS hL ?_
            rotate_left
            · (intro w hSw hSv; (try dsimp only at hSw); (try dsimp only at hSv); go_simp; try with_reducible rfl)
            try simp only [zp0, zp1, zp2, zp3, zp4]
            refine Reg.early_op (i := 2) (v := ?_) rfl (by kernel_rfl) (by kernel_rfl) (by kernel_rfl) rfl (by kernel_rfl) (by kernel_rfl) (fun _ _ _ h => h) (by rfl) ?_ hS hL ?_
            rotate_left
            · (intro w hSw hSv; (try dsimp only at hSw); (try dsimp only at hSv); go_simp; try with_reducible rfl)
            try simp only [zp0, zp1, zp2, zp3, zp4]
            refine Reg.plain_op (i := 3) (v := ?_) rfl (by kernel_rfl) (by kernel_rfl) (by kernel_rfl) rfl (fun _ _ _ h => h) (by rfl) ?_ hS (fun _ => hL) ?_
            rotate_left
            · (intro w hSw; (try dsimp only at hSw); go_simp; try with_reducible rfl)
            try simp only [zp0, zp1, zp2, zp3, zp4]
            refine Reg.plain_op (i := 4) (v := ?_) rfl (by kernel_rfl) (by kernel_rfl) (by kernel_rfl) rfl (fun _ _ _ h => h) (by rfl) ?_ hS (fun _ => hL) ?_
            rotate_left
            · (intro w hSw; (try dsimp only at hSw); go_simp; try with_reducible rfl)
            try simp only [zp0, zp1, zp2, zp3, zp4]
            refine Reg.early_op (i := 5) (v := ?_) rfl (by kernel_rfl) (by kernel_rfl) (by kernel_rfl) rfl (by kernel_rfl) (by kernel_rfl) (fun _ _ _ h => h) (by rfl) ?_ hS hL ?_
            rotate_left
            · (intro w hSw hSv; (try dsimp only at hSw); (try dsimp only at hSv); go_simp; try with_reducible rfl)
            try simp only [zp0, zp1, zp2, zp3, zp4]
            refine Reg.early_op (i := 6) (v := ?_) rfl (by kernel_rfl) (by kernel_rfl) (by kernel_rfl) rfl (by kernel_rfl) (by kernel_rfl) (fun _ _ _ h => h) (by rfl) ?_ hS hL ?_
            rotate_left
            · (intro w hSw hSv; (try dsimp only at hSw); (try dsimp only at hSv); go_simp; try with_reducible rfl)
            try simp only [zp0, zp1, zp2, zp3, zp4]
            refine Reg.early_op (i := 7) (v := ?_) rfl (by kernel_rfl) (by kernel_rfl) (by kernel_rfl) rfl (by kernel_rfl) (by kernel_rfl) (fun _ _ _ h => h) (by rfl) ?_ hS hL ?_
            rotate_left
            · (intro w hSw hSv; (try dsimp only at hSw); (try dsimp only at hSv); go_simp; try with_reducible rfl)
            try simp only [zp0, zp1, zp2, zp3, zp4]
            refine Reg.early_op (i := 8) (v := ?_) rfl (by kernel_rfl) (by kernel_rfl) (by kernel_rfl) rfl (by kernel_rfl) (by kernel_rfl) (fun _ _ _ h => h) (by rfl) ?_ hS hL ?_
            rotate_left
            · (intro w hSw hSv; (try dsimp only at hSw); (try dsimp only at hSv); go_simp; try with_reducible rfl)
            try simp only [zp0, zp1, zp2, zp3, zp4]
            refine Reg.plain_op (i := 9) (v := ?_) rfl (by kernel_rfl) (by kernel_rfl) (by kernel_rfl) rfl (fun _ _ _ h => h) (by rfl) ?_ hS (fun _ => hL) ?_
            rotate_left
            · (intro w hSw; (try dsimp only at hSw); go_simp; try with_reducible rfl)
            try simp only [zp0, zp1, zp2, zp3, zp4]
            refine Reg.plain_op (i := 10) (v := ?_) rfl (by kernel_rfl) (by kernel_rfl) (by kernel_rfl) rfl (fun _ _ _ h => h) (by rfl) ?_ hS (fun _ => hL) ?_
            rotate_left
            · (intro w hSw; (try dsimp only at hSw); go_simp; try with_reducible rfl)
            try simp only [zp0, zp1, zp2, zp3, zp4]
            refine Reg.plain_op (i := 11) (v := ?_) rfl (by kernel_rfl) (by kernel_rfl) (by kernel_rfl) rfl (fun _ _ _ h => h) (by rfl) ?_ hS (fun _ => hL) ?_
            rotate_left
            · (intro w hSw; (try dsimp only at hSw); go_simp; try with_reducible rfl)
            try simp only [zp0, zp1, zp2, zp3, zp4]
            refine Reg.plain_op (i := 12) (v := ?_) rfl (by kernel_rfl) (by kernel_rfl) (by kernel_rfl) rfl (fun _ _ _ h => h) (by rfl) ?_ hS (fun _ => hL) ?_
            rotate_left
            · (intro w hSw; (try dsimp only at hSw); go_simp; try with_reducible rfl)
            try simp only [zp0, zp1, zp2, zp3, zp4]
            refine Reg.early_op (i := 13) (v := ?_) rfl (by kernel_rfl) (by kernel_rfl) (by kernel_rfl) rfl (by kernel_rfl) (by kernel_rfl) (fun _ _ _ h => h) (by rfl) ?_ hS hL ?_
            rotate_left
            · (intro w hSw hSv; (try dsimp only at hSw); (try dsimp only at hSv); go_simp; try with_reducible rfl)
            try simp only [zp0, zp1, zp2, zp3, zp4]
            refine Reg.early_op (i := 14) (v := ?_) rfl (by kernel_rfl) (by kernel_rfl) (by kernel_rfl) rfl (by kernel_rfl) (by kernel_rfl) (fun _ _ _ h => h) (by rfl) ?_ hS hL ?_
            rotate_left
            · (intro w hSw hSv; (try dsimp only at hSw); (try dsimp only at hSv); go_simp; try with_reducible rfl)
            try simp only [zp0, zp1, zp2, zp3, zp4]
            refine Reg.late_op (i := 15) rfl (by kernel_rfl) rfl (fun K hK => ?_)
            have S8 := Lib.hid (show Sl.Sep W _ [Sv.ownV 72 4 (some ⟨g, 0, none⟩) c N (cellsI (srt.take q) ++ (cellsI [⟨⟨kd2, n2, t2⟩, ia2, ic2, l2⟩] ++ (cellsI [⟨⟨kd, n, t⟩, ia, ic, l⟩] ++ cellsI (srt.drop (q + 1) ++ ys.drop (k + 1))))), Run.restR W w g] from (by have h := S7.out; rw [cells_swap1 HY.out] at h; exact h))
            clear S7
            have HAL := Lib.hid (show (cellsI (srt.take q)).length = q * 4 by rw [cellsI_length, List.length_take]; omega)
            have HAR := Lib.hid (show q * 4 + 8 ≤ (cellsI (srt.take q) ++ (cellsI [⟨⟨kd2, n2, t2⟩, ia2, ic2, l2⟩] ++ (cellsI [⟨⟨kd, n, t⟩, ia, ic, l⟩] ++ cellsI (srt.drop (q + 1) ++ ys.drop (k + 1))))).length from by simp only [List.length_append, HAL.out, cellsI_length, List.length_cons, List.length_nil]; omega)
            have q0 := (Sv.own_at S8.out 0 rfl).cell (q * 4) (by have := HAR.out; omega)
            have z0 := (Sv.own_at S8.out 0 rfl).free (q * 4)
            have q1 := (Sv.own_at S8.out 0 rfl).cell (q * 4 + 1) (by have := HAR.out; omega)
            have z1 := (Sv.own_at S8.out 0 rfl).free (q * 4 + 1)
            have q2 := (Sv.own_at S8.out 0 rfl).cell (q * 4 + 2) (by have := HAR.out; omega)
            have z2 := (Sv.own_at S8.out 0 rfl).free (q * 4 + 2)
            have q3 := (Sv.own_at S8.out 0 rfl).cell (q * 4 + 3) (by have := HAR.out; omega)
            have z3 := (Sv.own_at S8.out 0 rfl).free (q * 4 + 3)
            go_simp
            clear q0 z0 q1 z1 q2 z2 q3 z3
            have S9 := Lib.hid (show Sl.Sep W ((((w3.setCell ⟨g, q * 4, none⟩ (.int .i64 kd)).setCell ⟨g, q * 4 + 1, none⟩ (.int .i64 n)).setCell ⟨g, q * 4 + 2, none⟩ (.string t)).setCell ⟨g, q * 4 + 3, none⟩ (.slice ia l.length ic)) [Sv.ownV 72 4 (some ⟨g, 0, none⟩) c N (cellsI (srt.take q) ++ (cellsI [⟨⟨kd, n, t⟩, ia, ic, l⟩] ++ (cellsI [⟨⟨kd, n, t⟩, ia, ic, l⟩] ++ cellsI (srt.drop (q + 1) ++ ys.drop (k + 1))))), Run.restR W w g] from (by have h := Run.put_run S8.out 0 rfl (q * 4) [.int .i64 kd, .int .i64 n, .string t, .slice ia l.length ic] (by have := HAR.out; simp only [List.length_cons, List.length_nil]; omega); rw [Run.over_mid _ _ _ _ _ HAL.out (by rw [cellsI_length]; rfl)] at h; exact h))
            clear S8
            refine hK.out _ _ trivial (fun hS => ?_)
            clear hL
            clear hK K
            try simp only [zp0, zp1, zp2, zp3, zp4]
            refine Reg.plain_op (i := 16) (v := ?_) rfl (by kernel_rfl) (by kernel_rfl) (by kernel_rfl) rfl (fun _ _ _ h => h) (by rfl) ?_ hS (fun h => absurd h (by decide)) ?_
            rotate_left
            · (intro w hSw; (try dsimp only at hSw); go_simp; try with_reducible rfl)
            try simp only [zp0, zp1, zp2, zp3, zp4]
            refine Reg.after_op (i := 17) rfl (by kernel_rfl) (by kernel_rfl) (fun K hK => ?_)
            have S10 := Lib.hid (show Sl.Sep W ((((w3.setCell ⟨g, q * 4, none⟩ (.int .i64 kd)).setCell ⟨g, q * 4 + 1, none⟩ (.int .i64 n)).setCell ⟨g, q * 4 + 2, none⟩ (.string t)).setCell ⟨g, q * 4 + 3, none⟩ (.slice ia l.length ic)) [Sv.ownV 72 4 (some ⟨g, 0, none⟩) c N ((cellsI (srt.take q) ++ cellsI [⟨⟨kd, n, t⟩, ia, ic, l⟩]) ++ (cellsI [⟨⟨kd, n, t⟩, ia, ic, l⟩] ++ cellsI (srt.drop (q + 1) ++ ys.drop (k + 1)))), Run.restR W w g] from (by have h := S9.out; rw [← List.append_assoc] at h; exact h))
            clear S9
            have HAL2 := Lib.hid (show (cellsI (srt.take q) ++ cellsI [⟨⟨kd, n, t⟩, ia, ic, l⟩]).length = (q + 1) * 4 by rw [List.length_append, HAL.out, cellsI_length]; simp; omega)
            have HAR2 := Lib.hid (show (q + 1) * 4 + 4 ≤ ((cellsI (srt.take q) ++ cellsI [⟨⟨kd, n, t⟩, ia, ic, l⟩]) ++ (cellsI [⟨⟨kd, n, t⟩, ia, ic, l⟩] ++ cellsI (srt.drop (q + 1) ++ ys.drop (k + 1)))).length from by simp only [List.length_append, HAL.out, cellsI_length, List.length_cons, List.length_nil]; omega)
            have q0 := (Sv.own_at S10.out 0 rfl).cell ((q + 1) * 4) (by have := HAR2.out; omega)
            have z0 := (Sv.own_at S10.out 0 rfl).free ((q + 1) * 4)
            have q1 := (Sv.own_at S10.out 0 rfl).cell ((q + 1) * 4 + 1) (by have := HAR2.out; omega)
            have z1 := (Sv.own_at S10.out 0 rfl).free ((q + 1) * 4 + 1)
            have q2 := (Sv.own_at S10.out 0 rfl).cell ((q + 1) * 4 + 2) (by have := HAR2.out; omega)
            have z2 := (Sv.own_at S10.out 0 rfl).free ((q + 1) * 4 + 2)
            have q3 := (Sv.own_at S10.out 0 rfl).cell ((q + 1) * 4 + 3) (by have := HAR2.out; omega)
            have z3 := (Sv.own_at S10.out 0 rfl).free ((q + 1) * 4 + 3)
            go_simp
            clear q0 z0 q1 z1 q2 z2 q3 z3
            have S11 := Lib.hid (show Sl.Sep W ((((((((w3.setCell ⟨g, q * 4, none⟩ (.int .i64 kd)).setCell ⟨g, q * 4 + 1, none⟩ (.int .i64 n)).setCell ⟨g, q * 4 + 2, none⟩ (.string t)).setCell ⟨g, q * 4 + 3, none⟩ (.slice ia l.length ic)).setCell ⟨g, (q + 1) * 4, none⟩ (.int .i64 kd2)).setCell ⟨g, (q + 1) * 4 + 1, none⟩ (.int .i64 n2)).setCell ⟨g, (q + 1) * 4 + 2, none⟩ (.string t2)).setCell ⟨g, (q + 1) * 4 + 3, none⟩ (.slice ia2 l2.length ic2)) [Sv.ownV 72 4 (some ⟨g, 0, none⟩) c N ((cellsI (srt.take q) ++ cellsI [⟨⟨kd, n, t⟩, ia, ic, l⟩]) ++ (cellsI [⟨⟨kd2, n2, t2⟩, ia2, ic2, l2⟩] ++ cellsI (srt.drop (q + 1) ++ ys.drop (k + 1)))), Run.restR W w g] from (by have h := Run.put_run S10.out 0 rfl ((q + 1) * 4) [.int .i64 kd2, .int .i64 n2, .string t2, .slice ia2 l2.length ic2] (by have := HAR2.out; simp only [List.length_cons, List.length_nil]; omega); rw [Run.over_mid _ _ _ _ _ HAL2.out (by rw [cellsI_length]; rfl)] at h; exact h))
            clear S10
            refine hK.out _ _ trivial (fun hS => ?_)
            clear hK K
            try simp only [zp0, zp1, zp2, zp3, zp4]
            refine Reg.anyL_done (by kernel_rfl) ?_ _
            have S12 := Lib.hid (show Sl.Sep W _ [Sv.ownV 72 4 (some ⟨g, 0, none⟩) c N (cellsI (srt.take q ++ ⟨⟨kd, n, t⟩, ia, ic, l⟩ :: (srt.drop q ++ ys.drop (k + 1)))), Run.restR W w g] from (by rw [cells_swap2 HY.out]; exact S11.out))
            clear S11
            go_wp2_with fail
            go_roundw
            case rel => exact ⟨q, by omega, by go_num, And.intro (by rw [HBP.out, backP_go HYC.out hb]) S12.out⟩
            case measure => simp [intOf]
    · skip
      go_wp2_with fail
      obtain rfl : k = N := by omega
      have hd : ys.drop k = [] := List.drop_of_length_le (Nat.le_of_eq HN.out.symm)
      have HC2 := HC.out
      have SE := S2.out
      rw [hd, List.append_nil] at HC2 SE
      rw [List.take_of_length_le (by rw [conI_length]; exact Nat.le_of_eq HN.out.symm)] at HC2
      go_end0
      exact ⟨rfl, srt, HC2.2.2, HC2.2.1, SE⟩
set_option maxHeartbeats 2000000 in
theorem sortNil_any (gc : Nat) (w : World) :
    Calls Try.prog 105 #[.slice none 0 0, .func (.func 106) #[] #[.pointer (some ⟨gc, 0, none⟩)]] w fun e w' => e = .returned (.tuple #[]) ∧ Below w.heap.size w w' := by
  go_enter Try.func105, Try.ntmps105
  go_wp2_with fail
  refine wp_loop_rounds 1 ?_
  rw [rounds_succ]
  go_wp2_with fail
  go_end0
  exact ⟨rfl, Below.refl _ _⟩
set_option maxHeartbeats 8000000 in
theorem indexOn_any (y : LS) (f : ByteArray) (hf : FitS y.con) (w : World) (hr : RowsRd w w.heap.size y.rows) :
    Calls Try.prog 88 #[y.v, .string f] w (GaveIs w (idxI y.con.items f.data.toList)) := by
  have HF := Lib.hid hf.items
  have HRY := Lib.hid (fun w' (h : Below w.heap.size w w') => (hr.below h).more h.size)
  have HINN := Lib.hid (fun w' (h : Below w.heap.size w w') => ((LS.inner hr).below h).more h.size)
  have hmf : ∀ (fn : Fn) (first cap : Array Value) (w : World), (Instr.makeFunc fn first cap).run Try.prog w = .ok (.func fn first cap) w := fun _ _ _ _ => rfl
  have HFS := Lib.hid hf
  clear hr hf
  obtain ⟨name, a, c, xs, auto⟩ := y
  dsimp only [LS.v, LS.cells, LS.con] at HRY HF HINN HFS ⊢
  have hxl : xs.length ≤ 1048576 := by have h := HFS.out.len; simp only [conI_length] at h; exact h
  have HXL := Lib.hid hxl
  clear hxl
  have S1 := Lib.hid (show Sl.Sep w ((w.alloc (.cells #[.string name, .slice a xs.length c, .int .i64 auto] 44)).alloc (.cells #[.string f] 9)) [L4.boxR w.heap.size 44 #[.string name, .slice a xs.length c, .int .i64 auto], L4.boxR (w.heap.size + 1) 9 #[.string f]] from L4.push_box (L4.push_box (Sl.Sep.start w) 44 #[.string name, .slice a xs.length c, .int .i64 auto] (w.heap.size) (by simp)) 9 #[.string f] (w.heap.size + 1) (by simp))
  obtain ⟨wa, hwa⟩ : ∃ u, u = ((w.alloc (.cells #[.string name, .slice a xs.length c, .int .i64 auto] 44)).alloc (.cells #[.string f] 9)) := ⟨_, rfl⟩
  rw [← hwa] at S1
  go_enter Try.func88, Try.ntmps88
  go_upto_region 1 with fail
  rw [← hwa]
  clear hwa
  have HW := Lib.hid (itemsWhereB_any (w.heap.size + 1) (fun x => getB x.l f.data.toList) ⟨name, a, c, xs, auto⟩ HFS.out wa (fun x hx w' hb => by
    have c0 := (Below.cell hb (p := ⟨w.heap.size + 1, 0, none⟩) (S1.out.lies 1 _ rfl _ (by simp [L4.boxR])).2).trans (Bag.cell_at S1.out 1 rfl 0 rfl)
    exact indexOn1_any _ _ _ _ _ x.l f (HF.out _ (List.mem_map.2 ⟨x, hx, rfl⟩)).len _ w' (((HINN.out w' (S1.out.old.trans (hb.mono S1.out.old.size))).at_ (rowsI_mem' hx)).reads) (Nat.lt_of_lt_of_le (S1.out.lies 1 _ rfl _ (by simp [L4.boxR])).2 hb.size) c0) (HRY.out _ S1.out.old))
  dsimp only [LS.v, LS.cells, LS.con] at HW
  have hh := Bag.cs3 S1.out 0 rfl
  have f0 := hh.1; have f1 := hh.2.1; have f2 := hh.2.2; clear hh
  have f3 := Bag.cs1 S1.out 1 rfl
  go_wp2_with fail
  go_at_call 102
  refine (HW.out).mono ?_
  rintro e w1 ⟨la, lc, ys, rfl, hys, ho, hb⟩
  clear f0 f1 f2 f3
  have S2 := Lib.hid (show Sl.Sep w _ [L4.boxR w.heap.size 44 #[.string name, .slice a xs.length c, .int .i64 auto], L4.boxR (w.heap.size + 1) 9 #[.string f], Bag.bag (rowI la lc ys :: rowsI ys)] from Bag.push_bag S1.out hb ho)
  clear S1
  clear hb ho
  clear HW
  have HY := Lib.hid hys
  clear hys
  have hyl : ys.length ≤ 1048576 := by have h := congrArg List.length HY.out; rw [conI_length] at h; have h2 := List.length_filter_le (fun x : It => getB x.l f.data.toList) (conI xs); rw [conI_length] at h2; have := HXL.out; omega
  have HYL := Lib.hid hyl
  clear hyl
  have HIT := Lib.hid (fun (x : LI) (hx : x ∈ ys) => HF.out x.con (List.mem_filter.1 (show x.con ∈ (conI xs).filter (fun x => getB x.l f.data.toList) from by rw [← HY.out]; exact List.mem_map.2 ⟨x, hx, rfl⟩)).1)
  have HIDX := Lib.hid (show idxI (conI xs) f.data.toList = srtI f.data.toList (conI ys) from by rw [idx_srt, HY.out])
  have S3 := Lib.hid (show Sl.Sep w _ [L4.boxR w.heap.size 44 #[.string name, .slice a xs.length c, .int .i64 auto], L4.boxR (w.heap.size + 1) 9 #[.string f], Bag.bag ([rowI la lc ys] ++ rowsI ys)] from S2.out)
  clear S2
  have S4 := Lib.hid (show Sl.Sep w _ [L4.boxR w.heap.size 44 #[.string name, .slice a xs.length c, .int .i64 auto], L4.boxR (w.heap.size + 1) 9 #[.string f], Bag.bag ([rowI la lc ys]), Bag.bag (rowsI ys)] from Bag.bag_split S3.out 2 rfl)
  clear S3
  have S5 := Lib.hid (show Sl.Sep w _ [L4.boxR w.heap.size 44 #[.string name, .slice a xs.length c, .int .i64 auto], L4.boxR (w.heap.size + 1) 9 #[.string f], Sv.ownV 72 4 la lc ys.length (cellsI ys), Bag.bag (rowsI ys)] from (by have h := Bag.one_of_bag S4.out 2 (r := rowI la lc ys) rfl; unfold RowS.res rowI at h; dsimp only at h; exact h))
  clear S4
  rcases (Sv.own_at S5.out 2 rfl).form with ⟨rfl, hl0, -, rfl⟩ | ⟨g3, rfl, -⟩
  · have hy0 : ys = [] := List.eq_nil_of_length_eq_zero hl0
    subst hy0
    dsimp only [List.length_nil]
    have hh := Bag.cs3 S5.out 0 rfl
    have f0 := hh.1; have f1 := hh.2.1; have f2 := hh.2.2; clear hh
    have f3 := Bag.cs1 S5.out 1 rfl
    go_wp2_with fail
    go_at_call 105
    refine (sortNil_any _ _).mono ?_
    rintro e w2 ⟨rfl, hb⟩
    clear f0 f1 f2 f3
    have S6 := Lib.hid (S5.out.keep hb)
    clear S5
    clear hb
    have hh := Bag.cs3 S6.out 0 rfl
    have f0 := hh.1; have f1 := hh.2.1; have f2 := hh.2.2; clear hh
    have f3 := Bag.cs1 S6.out 1 rfl
    go_wp2_with fail
    go_ret
    exact ⟨none, 0, [], rfl, (show conI [] = srtI f.data.toList (conI []) from rfl).trans HIDX.out.symm, BagOwn.one (by have h := Sv.own_from S6.out 2 rfl; exact h), S6.out.old⟩
  · skip
    have HPR : Hid (Prec 106 (w.heap.size + 1) g3 f.data.toList ys w1) := Lib.hid (fun x hx y hy w' ht => by
      have hne : ∀ (i : Nat) (r : Res), i ≠ 2 → ([L4.boxR w.heap.size 44 #[.string name, .slice a xs.length c, .int .i64 auto], L4.boxR (w.heap.size + 1) 9 #[.string f], Sv.ownV 72 4 (some ⟨g3, 0, none⟩) lc ys.length (cellsI ys), Bag.bag (rowsI ys)] : List Res)[i]? = some r → ∀ b ∈ r.fp, w'.heap[b]? = (World.heap w1)[b]? := fun i r hi hr b hb => ht.block b (S5.out.lies i r hr b hb).2 (fun e => by
        rw [List.mem_singleton] at e; subst e; exact S5.out.apart i 2 r _ hr rfl hi _ hb (by simp [Sv.ownV, Value.ownBlock]))
      have hrd := Bag.BagOwn.rd ((Bag.bag (rowsI ys)).loc (hne 3 _ (by decide) rfl) (S5.out.is 3 _ rfl))
      have hrow := (L4.boxR (w.heap.size + 1) 9 #[.string f]).loc (hne 1 _ (by decide) rfl) (S5.out.is 1 _ rfl)
      have hrow' : Row w' (w.heap.size + 1) 9 #[.string f] := hrow
      exact indexOn2_any _ _ _ _ _ _ _ _ _ _ x.l y.l f _ (HIT.out x hx).text (HIT.out y hy).text (HIT.out x hx).len (HIT.out y hy).len w' ((hrd.at_ (rowsI_mem' hx)).reads) ((hrd.at_ (rowsI_mem' hy)).reads) (Nat.lt_of_lt_of_le (S5.out.lies 1 _ rfl _ (by simp [L4.boxR])).2 ht.size) (by rw [hrow'.cell]; rfl))
    have HSO := Lib.hid (sort_any g3 (w.heap.size + 1) lc f.data.toList ys (by have := HYL.out; omega) w w1 (Run.rest_start S5.out 2 rfl) HPR.out)
    have hh := Bag.cs3 S5.out 0 rfl
    have f0 := hh.1; have f1 := hh.2.1; have f2 := hh.2.2; clear hh
    have f3 := Bag.cs1 S5.out 1 rfl
    go_wp2_with fail
    go_at_call 105
    refine HSO.out.mono ?_
    rintro e w5 ⟨zs, rfl, hpm, hcz, hS⟩
    clear f0 f1 f2 f3
    have S6 := Lib.hid (show Sl.Sep w _ [L4.boxR w.heap.size 44 #[.string name, .slice a xs.length c, .int .i64 auto], L4.boxR (w.heap.size + 1) 9 #[.string f], Sv.ownV 72 4 (some ⟨g3, 0, none⟩) lc ys.length (cellsI zs), Bag.bag (rowsI ys)] from Run.rest_back S5.out 2 rfl hS)
    clear S5
    clear hS HSO HPR
    have HPM := Lib.hid hpm
    have HCZ := Lib.hid hcz
    clear hpm hcz
    have S7 := Lib.hid (show Sl.Sep w _ [L4.boxR w.heap.size 44 #[.string name, .slice a xs.length c, .int .i64 auto], L4.boxR (w.heap.size + 1) 9 #[.string f], Sv.ownV 72 4 (some ⟨g3, 0, none⟩) lc ys.length (cellsI zs), Bag.bag (rowsI zs)] from Bag.bag_perm S6.out 3 rfl ((HPM.out.map LI.row).symm))
    clear S6
    have hh := Bag.cs3 S7.out 0 rfl
    have f0 := hh.1; have f1 := hh.2.1; have f2 := hh.2.2; clear hh
    have f3 := Bag.cs1 S7.out 1 rfl
    go_wp2_with fail
    go_ret
    have hlz := HPM.out.length_eq
    clear f0 f1 f2 f3
    have S8 := Lib.hid (show Sl.Sep w _ [L4.boxR w.heap.size 44 #[.string name, .slice a xs.length c, .int .i64 auto], L4.boxR (w.heap.size + 1) 9 #[.string f], Sv.ownV 72 4 (some ⟨g3, 0, none⟩) lc zs.length (cellsI zs), Bag.bag (rowsI zs)] from (by have h := S7.out; rw [← hlz] at h; exact h))
    clear S7
    have S9 := Lib.hid (show Sl.Sep w _ [L4.boxR w.heap.size 44 #[.string name, .slice a xs.length c, .int .i64 auto], L4.boxR (w.heap.size + 1) 9 #[.string f], Bag.bag ([rowI (some ⟨g3, 0, none⟩) lc zs]), Bag.bag (rowsI zs)] from Bag.bag_of_one S8.out 2 (r := rowI (some ⟨g3, 0, none⟩) lc zs) rfl)
    clear S8
    have S10 := Lib.hid (show Sl.Sep w _ [L4.boxR w.heap.size 44 #[.string name, .slice a xs.length c, .int .i64 auto], L4.boxR (w.heap.size + 1) 9 #[.string f], Bag.bag ([rowI (some ⟨g3, 0, none⟩) lc zs] ++ (rowsI zs)), Bag.bag ([])] from Bag.bag_join S9.out 2 3 (by decide) rfl rfl)
    clear S9
    exact ⟨some ⟨g3, 0, none⟩, lc, zs, by rw [hlz]; rfl, HCZ.out.trans HIDX.out.symm, Bag.bag_from S10.out 2 rfl, S10.out.old⟩
end Go.Proofs.Ytboefioalkjdaaa.L7

/-
  The contracts of the program's UniqueFault. Conditions: keys' texts of at most 2^40 bytes, at most 2^20 fields and items. (Written by my program gen_l7h.py.)
-/
namespace Go.Proofs.Ytboefioalkjdaaa.L7
set_option maxRecDepth 100000
open L4 (K isK cmpK R inR encU)
open L5 (F isR isN cellsF encR eqR Small getO getN getB)
open L6
open Go.ChangeShapes Go.WideShapes Go.ChangeAt Go.RowKit Mem Sl Ex L2 Sv Bag
set_option linter.unusedVariables false
set_option linter.unusedSimpArgs false

set_option maxHeartbeats 8000000 in
theorem uniqueFault_any (y : LS) (f : ByteArray) (hf : FitS y.con) (w : World) (hr : RowsRd w w.heap.size y.rows) :
    Calls Try.prog 72 #[y.v, .string f] w fun e w' => e = .returned (.tuple #[(ufA f.data.toList (idxI y.con.items f.data.toList)).v, (ufZ f.data.toList (idxI y.con.items f.data.toList)).v, .bool (ufB f.data.toList (idxI y.con.items f.data.toList))]) ∧ Below w.heap.size w w' := by
  have HIX := Lib.hid (fun w' (h : Below w.heap.size w w') => indexOn_any y f hf w' ((hr.below h).more h.size))
  have HFX := Lib.hid (fit_idx (t := f.data.toList) hf.items)
  have HLN := Lib.hid (Nat.le_trans (idxI_len y.con.items f.data.toList) hf.len)
  obtain ⟨L, hL⟩ : ∃ u, idxI y.con.items f.data.toList = u := ⟨_, rfl⟩
  rw [hL] at HIX HFX HLN ⊢
  clear hL
  obtain ⟨name, a, c, xs, auto⟩ := y
  dsimp only [LS.v, LS.cells] at HIX ⊢
  have S1 := Lib.hid (show Sl.Sep w (((w.alloc (.cells #[.string name, .slice a xs.length c, .int .i64 auto] 44)).alloc (.cells #[.int .i64 0, .int .i64 0, .string ⟨#[]⟩] 49)).alloc (.cells #[.int .i64 0, .int .i64 0, .string ⟨#[]⟩] 49)) [L4.boxR w.heap.size 44 #[.string name, .slice a xs.length c, .int .i64 auto], L4.boxR (w.heap.size + 1) 49 #[.int .i64 0, .int .i64 0, .string ⟨#[]⟩], L4.boxR (w.heap.size + 1 + 1) 49 #[.int .i64 0, .int .i64 0, .string ⟨#[]⟩]] from L4.push_box (L4.push_box (L4.push_box (Sl.Sep.start w) 44 #[.string name, .slice a xs.length c, .int .i64 auto] (w.heap.size) (by simp)) 49 #[.int .i64 0, .int .i64 0, .string ⟨#[]⟩] (w.heap.size + 1) (by simp)) 49 #[.int .i64 0, .int .i64 0, .string ⟨#[]⟩] (w.heap.size + 1 + 1) (by simp))
  obtain ⟨wa, hwa⟩ : ∃ u, u = (((w.alloc (.cells #[.string name, .slice a xs.length c, .int .i64 auto] 44)).alloc (.cells #[.int .i64 0, .int .i64 0, .string ⟨#[]⟩] 49)).alloc (.cells #[.int .i64 0, .int .i64 0, .string ⟨#[]⟩] 49)) := ⟨_, rfl⟩
  rw [← hwa] at S1
  go_enter Try.func72, Try.ntmps72
  go_upto_region 1 with fail
  rw [← hwa]
  clear hwa
  have hh := Bag.cs3 S1.out 0 rfl
  have f0 := hh.1; have f1 := hh.2.1; have f2 := hh.2.2; clear hh
  go_wp2_with fail
  go_at_call 88
  refine (HIX.out _ S1.out.old).mono ?_
  rintro e w1 ⟨la, lc, ys, rfl, hys, ho, hb⟩
  clear f0 f1 f2
  have S2 := Lib.hid (show Sl.Sep w _ [L4.boxR w.heap.size 44 #[.string name, .slice a xs.length c, .int .i64 auto], L4.boxR (w.heap.size + 1) 49 #[.int .i64 0, .int .i64 0, .string ⟨#[]⟩], L4.boxR (w.heap.size + 1 + 1) 49 #[.int .i64 0, .int .i64 0, .string ⟨#[]⟩], Bag.bag (rowI la lc ys :: rowsI ys)] from Bag.push_bag S1.out hb ho)
  clear S1
  clear hb ho
  have HY := Lib.hid hys
  clear hys
  obtain ⟨N, hN⟩ : ∃ N, N = ys.length := ⟨_, rfl⟩
  rw [← hN]
  have HN := Lib.hid hN
  have hNl : N ≤ 1048576 := by have h := HLN.out; rw [← HY.out, conI_length] at h; omega
  clear hN
  go_wp2_with fail
  go_loopw [8] (fun i wr => ∃ j : Nat, (j + 1 ≤ N ∨ j = 0) ∧ i = .int .i64 ((j + 1 : Nat) : Int) ∧ Hid ((∀ q, q < j → adj7 f.data.toList (conI ys) q = false) ∧ Sl.Sep w wr [L4.boxR w.heap.size 44 #[.string name, .slice a xs.length c, .int .i64 auto], L4.boxR (w.heap.size + 1) 49 #[.int .i64 0, .int .i64 0, .string ⟨#[]⟩], L4.boxR (w.heap.size + 1 + 1) 49 #[.int .i64 0, .int .i64 0, .string ⟨#[]⟩], Bag.bag (rowI la lc ys :: rowsI ys)])) (fun i _ => N - (intOf i).toNat)
  case atStart => exact ⟨0, .inr rfl, rfl, And.intro (fun q hq => absurd hq (by omega)) S2.out⟩
  case round =>
    obtain ⟨j, hj, rfl, hrel⟩ := hrel
    have HA := Lib.hid hrel.out.1
    have S3 := Lib.hid hrel.out.2
    clear hrel S2
    by_cases hlt : ((j + 1 : Nat) : Int) < (N : Int)
    · skip
      obtain ⟨ad, x1, e', hx1⟩ := readsI_some (LS.outer (s := ⟨⟨#[]⟩, la, lc, ys, 0⟩) (Bag.bag_rd S3.out 3 rfl)) j (by show j < ys.length; have := HN.out; omega)
      have e'' : la = some ad := e'
      subst e''
      clear e'
      obtain ⟨ad_, x2, e_, hx2⟩ := readsI_some (LS.outer (s := ⟨⟨#[]⟩, some ad, lc, ys, 0⟩) (Bag.bag_rd S3.out 3 rfl)) (j + 1) (by show j + 1 < ys.length; have := HN.out; omega)
      clear ad_ e_
      obtain ⟨⟨kd, n, t⟩, ia, ic, l⟩ := x1
      obtain ⟨⟨kd2, n2, t2⟩, ia2, ic2, l2⟩ := x2
      have HX1 := Lib.hid hx1
      have HX2 := Lib.hid hx2
      have HC1 := Lib.hid (show (conI ys)[j]? = some (⟨⟨kd, n, t⟩, l⟩ : It) from con_of hx1)
      have HC2 := Lib.hid (show (conI ys)[j + 1]? = some (⟨⟨kd2, n2, t2⟩, l2⟩ : It) from con_of hx2)
      clear hx1 hx2
      have HF1 := Lib.hid (show FitI ⟨⟨kd, n, t⟩, l⟩ from HFX.out _ (by rw [← HY.out]; exact List.mem_of_getElem? HC1.out))
      have HF2 := Lib.hid (show FitI ⟨⟨kd2, n2, t2⟩, l2⟩ from HFX.out _ (by rw [← HY.out]; exact List.mem_of_getElem? HC2.out))
      obtain ⟨na, hna⟩ : ∃ u, getN l f.data.toList = u := ⟨_, rfl⟩
      obtain ⟨nb, hnb⟩ : ∃ u, getN l2 f.data.toList = u := ⟨_, rfl⟩
      have HNA := Lib.hid hna
      have HNB := Lib.hid hnb
      have HAD := Lib.hid (show adj7 f.data.toList (conI ys) j = (na == nb) from by rw [adj_at HC1.out HC2.out]; dsimp only; rw [hna, hnb])
      clear hna hnb
      have hj1 : (0 : Int) ≤ (j : Int) + 1 := by omega
      have hsub : ((j + 1 : Nat) : Int) - 1 = (j : Int) := by omega
      have hjm : (j : Int) < (N : Int) := by omega
      have hjm1 : (j : Int) + 1 < (N : Int) := by omega
      have hwr : IntKind.i64.wrap (j : Int) = (j : Int) := IntWalk.i64_in _ ⟨by omega, by omega⟩
      go_upto_region 5 with fail
      refine wp_region_held_drew (S := (fun w' => World.cell? w' (ad.add (j * 4)) = some (.int .i64 kd) ∧ World.cell? w' (⟨(ad.add (j * 4)).block, (ad.add (j * 4)).off + 1, none⟩) = some (.int .i64 n) ∧ World.cell? w' (⟨(ad.add (j * 4)).block, (ad.add (j * 4)).off + 2, none⟩) = some (.string t) ∧ World.cell? w' (⟨(ad.add (j * 4)).block, (ad.add (j * 4)).off + 3, none⟩) = some (.slice ia l.length ic) ∧ World.cell? w' (ad.add ((j + 1) * 4)) = some (.int .i64 kd2) ∧ World.cell? w' (⟨(ad.add ((j + 1) * 4)).block, (ad.add ((j + 1) * 4)).off + 1, none⟩) = some (.int .i64 n2) ∧ World.cell? w' (⟨(ad.add ((j + 1) * 4)).block, (ad.add ((j + 1) * 4)).off + 2, none⟩) = some (.string t2) ∧ World.cell? w' (⟨(ad.add ((j + 1) * 4)).block, (ad.add ((j + 1) * 4)).off + 3, none⟩) = some (.slice ia2 l2.length ic2))) (by kernel_rfl) ⟨(readsI_at (LS.outer (s := ⟨⟨#[]⟩, some ad, lc, ys, 0⟩) (Bag.bag_rd (Bag.drew1 S3.out) 3 rfl)) j _ HX1.out).1, (readsI_at (LS.outer (s := ⟨⟨#[]⟩, some ad, lc, ys, 0⟩) (Bag.bag_rd (Bag.drew1 S3.out) 3 rfl)) j _ HX1.out).2.1, (readsI_at (LS.outer (s := ⟨⟨#[]⟩, some ad, lc, ys, 0⟩) (Bag.bag_rd (Bag.drew1 S3.out) 3 rfl)) j _ HX1.out).2.2.1, (readsI_at (LS.outer (s := ⟨⟨#[]⟩, some ad, lc, ys, 0⟩) (Bag.bag_rd (Bag.drew1 S3.out) 3 rfl)) j _ HX1.out).2.2.2, (readsI_at (LS.outer (s := ⟨⟨#[]⟩, some ad, lc, ys, 0⟩) (Bag.bag_rd (Bag.drew1 S3.out) 3 rfl)) (j + 1) _ HX2.out).1, (readsI_at (LS.outer (s := ⟨⟨#[]⟩, some ad, lc, ys, 0⟩) (Bag.bag_rd (Bag.drew1 S3.out) 3 rfl)) (j + 1) _ HX2.out).2.1, (readsI_at (LS.outer (s := ⟨⟨#[]⟩, some ad, lc, ys, 0⟩) (Bag.bag_rd (Bag.drew1 S3.out) 3 rfl)) (j + 1) _ HX2.out).2.2.1, (readsI_at (LS.outer (s := ⟨⟨#[]⟩, some ad, lc, ys, 0⟩) (Bag.bag_rd (Bag.drew1 S3.out) 3 rfl)) (j + 1) _ HX2.out).2.2.2⟩ (fun hS => ?_)
      have S4 := Lib.hid (show Sl.Sep w _ [L4.boxR w.heap.size 44 #[.string name, .slice a xs.length c, .int .i64 auto], L4.boxR (w.heap.size + 1) 49 #[.int .i64 0, .int .i64 0, .string ⟨#[]⟩], L4.boxR (w.heap.size + 1 + 1) 49 #[.int .i64 0, .int .i64 0, .string ⟨#[]⟩], Bag.bag (rowI (some ad) lc ys :: rowsI ys)] from Bag.drew1 S3.out)
      clear S3
      generalize World.drew _ = w2 at hS S4 ⊢
      refine tk 0 rfl ?_
      try simp only [zp0, zp1, zp2, zp3, zp4]
      refine tk 1 rfl ?_
      try simp only [zp0, zp1, zp2, zp3, zp4]
      refine tk 2 rfl ?_
      try simp only [zp0, zp1, zp2, zp3, zp4]
      refine tk 3 rfl ?_
      try simp only [zp0, zp1, zp2, zp3, zp4]
      refine tk 4 rfl ?_
      try simp only [zp0, zp1, zp2, zp3, zp4]
      refine tk 5 rfl ?_
      try simp only [zp0, zp1, zp2, zp3, zp4]
      refine tk 7 rfl ?_
      try simp only [zp0, zp1, zp2, zp3, zp4]
      refine tk 8 rfl ?_
      try simp only [zp0, zp1, zp2, zp3, zp4]
      refine tk 9 rfl ?_
      try simp only [zp0, zp1, zp2, zp3, zp4]
      refine tk 10 rfl ?_
      try simp only [zp0, zp1, zp2, zp3, zp4]
      refine tk 11 rfl ?_
      try simp only [zp0, zp1, zp2, zp3, zp4]
      refine Reg.one_op (i := 6) rfl (by kernel_rfl) (fun K hK => ?_)
      have HC := numberIn_any kd n t ia ic l f HF1.out.len w2 (((LS.inner (s := ⟨⟨#[]⟩, some ad, lc, ys, 0⟩) (Bag.bag_rd S4.out 3 rfl)).at_ (rowsI_mem HX1.out)).reads)
      rw [HNA.out] at HC
      go_simp
      go_at_call 89
      refine HC.mono ?_
      clear HC
      rintro e w3 ⟨rfl, hb⟩
      have S5 := Lib.hid (S4.out.keep hb)
      clear S4
      clear hb
      go_wp2_with fail
      refine hK.out _ _ ⟨(readsI_at (LS.outer (s := ⟨⟨#[]⟩, some ad, lc, ys, 0⟩) (Bag.bag_rd S5.out 3 rfl)) j _ HX1.out).1, (readsI_at (LS.outer (s := ⟨⟨#[]⟩, some ad, lc, ys, 0⟩) (Bag.bag_rd S5.out 3 rfl)) j _ HX1.out).2.1, (readsI_at (LS.outer (s := ⟨⟨#[]⟩, some ad, lc, ys, 0⟩) (Bag.bag_rd S5.out 3 rfl)) j _ HX1.out).2.2.1, (readsI_at (LS.outer (s := ⟨⟨#[]⟩, some ad, lc, ys, 0⟩) (Bag.bag_rd S5.out 3 rfl)) j _ HX1.out).2.2.2, (readsI_at (LS.outer (s := ⟨⟨#[]⟩, some ad, lc, ys, 0⟩) (Bag.bag_rd S5.out 3 rfl)) (j + 1) _ HX2.out).1, (readsI_at (LS.outer (s := ⟨⟨#[]⟩, some ad, lc, ys, 0⟩) (Bag.bag_rd S5.out 3 rfl)) (j + 1) _ HX2.out).2.1, (readsI_at (LS.outer (s := ⟨⟨#[]⟩, some ad, lc, ys, 0⟩) (Bag.bag_rd S5.out 3 rfl)) (j + 1) _ HX2.out).2.2.1, (readsI_at (LS.outer (s := ⟨⟨#[]⟩, some ad, lc, ys, 0⟩) (Bag.bag_rd S5.out 3 rfl)) (j + 1) _ HX2.out).2.2.2⟩ (fun hS => ?_)
      clear hK K
      try simp only [zp0, zp1, zp2, zp3, zp4]
      refine Reg.one_op (i := 12) rfl (by kernel_rfl) (fun K hK => ?_)
      have HC := numberIn_any kd2 n2 t2 ia2 ic2 l2 f HF2.out.len w3 (((LS.inner (s := ⟨⟨#[]⟩, some ad, lc, ys, 0⟩) (Bag.bag_rd S5.out 3 rfl)).at_ (rowsI_mem HX2.out)).reads)
      rw [HNB.out] at HC
      go_simp
      go_at_call 89
      refine HC.mono ?_
      clear HC
      rintro e w4 ⟨rfl, hb⟩
      have S6 := Lib.hid (S5.out.keep hb)
      clear S5
      clear hb
      go_wp2_with fail
      refine hK.out _ _ ⟨(readsI_at (LS.outer (s := ⟨⟨#[]⟩, some ad, lc, ys, 0⟩) (Bag.bag_rd S6.out 3 rfl)) j _ HX1.out).1, (readsI_at (LS.outer (s := ⟨⟨#[]⟩, some ad, lc, ys, 0⟩) (Bag.bag_rd S6.out 3 rfl)) j _ HX1.out).2.1, (readsI_at (LS.outer (s := ⟨⟨#[]⟩, some ad, lc, ys, 0⟩) (Bag.bag_rd S6.out 3 rfl)) j _ HX1.out).2.2.1, (readsI_at (LS.outer (s := ⟨⟨#[]⟩, some ad, lc, ys, 0⟩) (Bag.bag_rd S6.out 3 rfl)) j _ HX1.out).2.2.2, (readsI_at (LS.outer (s := ⟨⟨#[]⟩, some ad, lc, ys, 0⟩) (Bag.bag_rd S6.out 3 rfl)) (j + 1) _ HX2.out).1, (readsI_at (LS.outer (s := ⟨⟨#[]⟩, some ad, lc, ys, 0⟩) (Bag.bag_rd S6.out 3 rfl)) (j + 1) _ HX2.out).2.1, (readsI_at (LS.outer (s := ⟨⟨#[]⟩, some ad, lc, ys, 0⟩) (Bag.bag_rd S6.out 3 rfl)) (j + 1) _ HX2.out).2.2.1, (readsI_at (LS.outer (s := ⟨⟨#[]⟩, some ad, lc, ys, 0⟩) (Bag.bag_rd S6.out 3 rfl)) (j + 1) _ HX2.out).2.2.2⟩ (fun hS => ?_)
      clear hK K
      try simp only [zp0, zp1, zp2, zp3, zp4]
      refine tk 13 rfl ?_
      try simp only [zp0, zp1, zp2, zp3, zp4]
      refine wpAnyH_done (by kernel_rfl) ?_ _
      have hh := Bag.cs3 S6.out 0 rfl
      have f0 := hh.1; have f1 := hh.2.1; have f2 := hh.2.2; clear hh
      have hh := Bag.cs3 S6.out 1 rfl
      have f3 := hh.1; have f4 := hh.2.1; have f5 := hh.2.2; clear hh
      have hh := Bag.cs3 S6.out 2 rfl
      have f6 := hh.1; have f7 := hh.2.1; have f8 := hh.2.2; clear hh
      have f9 : World.cell? _ (ad.add (j * 4)) = some (.int .i64 kd) := (readsI_at (LS.outer (s := ⟨⟨#[]⟩, some ad, lc, ys, 0⟩) (Bag.bag_rd S6.out 3 rfl)) j _ HX1.out).1
      have f10 : World.cell? _ (⟨(ad.add (j * 4)).block, (ad.add (j * 4)).off + 1, none⟩) = some (.int .i64 n) := (readsI_at (LS.outer (s := ⟨⟨#[]⟩, some ad, lc, ys, 0⟩) (Bag.bag_rd S6.out 3 rfl)) j _ HX1.out).2.1
      have f11 : World.cell? _ (⟨(ad.add (j * 4)).block, (ad.add (j * 4)).off + 2, none⟩) = some (.string t) := (readsI_at (LS.outer (s := ⟨⟨#[]⟩, some ad, lc, ys, 0⟩) (Bag.bag_rd S6.out 3 rfl)) j _ HX1.out).2.2.1
      have f12 : World.cell? _ (⟨(ad.add (j * 4)).block, (ad.add (j * 4)).off + 3, none⟩) = some (.slice ia l.length ic) := (readsI_at (LS.outer (s := ⟨⟨#[]⟩, some ad, lc, ys, 0⟩) (Bag.bag_rd S6.out 3 rfl)) j _ HX1.out).2.2.2
      have f13 : World.cell? _ (ad.add ((j + 1) * 4)) = some (.int .i64 kd2) := (readsI_at (LS.outer (s := ⟨⟨#[]⟩, some ad, lc, ys, 0⟩) (Bag.bag_rd S6.out 3 rfl)) (j + 1) _ HX2.out).1
      have f14 : World.cell? _ (⟨(ad.add ((j + 1) * 4)).block, (ad.add ((j + 1) * 4)).off + 1, none⟩) = some (.int .i64 n2) := (readsI_at (LS.outer (s := ⟨⟨#[]⟩, some ad, lc, ys, 0⟩) (Bag.bag_rd S6.out 3 rfl)) (j + 1) _ HX2.out).2.1
      have f15 : World.cell? _ (⟨(ad.add ((j + 1) * 4)).block, (ad.add ((j + 1) * 4)).off + 2, none⟩) = some (.string t2) := (readsI_at (LS.outer (s := ⟨⟨#[]⟩, some ad, lc, ys, 0⟩) (Bag.bag_rd S6.out 3 rfl)) (j + 1) _ HX2.out).2.2.1
      have f16 : World.cell? _ (⟨(ad.add ((j + 1) * 4)).block, (ad.add ((j + 1) * 4)).off + 3, none⟩) = some (.slice ia2 l2.length ic2) := (readsI_at (LS.outer (s := ⟨⟨#[]⟩, some ad, lc, ys, 0⟩) (Bag.bag_rd S6.out 3 rfl)) (j + 1) _ HX2.out).2.2.2
      by_cases he : na = nb
      · have he' : (na == nb) = true := by simp [he]
        go_upto_region 6 with fail
        clear f0 f1 f2 f3 f4 f5 f6 f7 f8 f9 f10 f11 f12 f13 f14 f15 f16
        refine wp_region_held_drew (S := (fun w' => World.cell? w' (ad.add (j * 4)) = some (.int .i64 kd) ∧ World.cell? w' (⟨(ad.add (j * 4)).block, (ad.add (j * 4)).off + 1, none⟩) = some (.int .i64 n) ∧ World.cell? w' (⟨(ad.add (j * 4)).block, (ad.add (j * 4)).off + 2, none⟩) = some (.string t) ∧ World.cell? w' (⟨(ad.add (j * 4)).block, (ad.add (j * 4)).off + 3, none⟩) = some (.slice ia l.length ic) ∧ World.cell? w' (ad.add ((j + 1) * 4)) = some (.int .i64 kd2) ∧ World.cell? w' (⟨(ad.add ((j + 1) * 4)).block, (ad.add ((j + 1) * 4)).off + 1, none⟩) = some (.int .i64 n2) ∧ World.cell? w' (⟨(ad.add ((j + 1) * 4)).block, (ad.add ((j + 1) * 4)).off + 2, none⟩) = some (.string t2) ∧ World.cell? w' (⟨(ad.add ((j + 1) * 4)).block, (ad.add ((j + 1) * 4)).off + 3, none⟩) = some (.slice ia2 l2.length ic2))) (by kernel_rfl) ⟨(readsI_at (LS.outer (s := ⟨⟨#[]⟩, some ad, lc, ys, 0⟩) (Bag.bag_rd (Bag.drew1 S6.out) 3 rfl)) j _ HX1.out).1, (readsI_at (LS.outer (s := ⟨⟨#[]⟩, some ad, lc, ys, 0⟩) (Bag.bag_rd (Bag.drew1 S6.out) 3 rfl)) j _ HX1.out).2.1, (readsI_at (LS.outer (s := ⟨⟨#[]⟩, some ad, lc, ys, 0⟩) (Bag.bag_rd (Bag.drew1 S6.out) 3 rfl)) j _ HX1.out).2.2.1, (readsI_at (LS.outer (s := ⟨⟨#[]⟩, some ad, lc, ys, 0⟩) (Bag.bag_rd (Bag.drew1 S6.out) 3 rfl)) j _ HX1.out).2.2.2, (readsI_at (LS.outer (s := ⟨⟨#[]⟩, some ad, lc, ys, 0⟩) (Bag.bag_rd (Bag.drew1 S6.out) 3 rfl)) (j + 1) _ HX2.out).1, (readsI_at (LS.outer (s := ⟨⟨#[]⟩, some ad, lc, ys, 0⟩) (Bag.bag_rd (Bag.drew1 S6.out) 3 rfl)) (j + 1) _ HX2.out).2.1, (readsI_at (LS.outer (s := ⟨⟨#[]⟩, some ad, lc, ys, 0⟩) (Bag.bag_rd (Bag.drew1 S6.out) 3 rfl)) (j + 1) _ HX2.out).2.2.1, (readsI_at (LS.outer (s := ⟨⟨#[]⟩, some ad, lc, ys, 0⟩) (Bag.bag_rd (Bag.drew1 S6.out) 3 rfl)) (j + 1) _ HX2.out).2.2.2⟩ (fun hS => ?_)
        have S7 := Lib.hid (show Sl.Sep w _ [L4.boxR w.heap.size 44 #[.string name, .slice a xs.length c, .int .i64 auto], L4.boxR (w.heap.size + 1) 49 #[.int .i64 0, .int .i64 0, .string ⟨#[]⟩], L4.boxR (w.heap.size + 1 + 1) 49 #[.int .i64 0, .int .i64 0, .string ⟨#[]⟩], Bag.bag (rowI (some ad) lc ys :: rowsI ys)] from Bag.drew1 S6.out)
        clear S6
        generalize World.drew _ = w5 at hS S7 ⊢
        refine tk 0 rfl ?_
        try simp only [zp0, zp1, zp2, zp3, zp4]
        refine tk 1 rfl ?_
        try simp only [zp0, zp1, zp2, zp3, zp4]
        refine tk 2 rfl ?_
        try simp only [zp0, zp1, zp2, zp3, zp4]
        refine tk 3 rfl ?_
        try simp only [zp0, zp1, zp2, zp3, zp4]
        refine tk 4 rfl ?_
        try simp only [zp0, zp1, zp2, zp3, zp4]
        refine tk 5 rfl ?_
        try simp only [zp0, zp1, zp2, zp3, zp4]
        refine tk 6 rfl ?_
        try simp only [zp0, zp1, zp2, zp3, zp4]
        refine tk 7 rfl ?_
        try simp only [zp0, zp1, zp2, zp3, zp4]
        refine tk 8 rfl ?_
        try simp only [zp0, zp1, zp2, zp3, zp4]
        refine tk 9 rfl ?_
        try simp only [zp0, zp1, zp2, zp3, zp4]
        refine tk 10 rfl ?_
        try simp only [zp0, zp1, zp2, zp3, zp4]
        refine Reg.one_op (i := 11) rfl (by kernel_rfl) (fun K hK => ?_)
        have hh := Bag.cs3 S7.out 1 rfl
        have f0 := hh.1; have f1 := hh.2.1; have f2 := hh.2.2; clear hh
        have hh := Bag.fs3 S7.out 1 rfl
        have z0 := hh.1; have z1 := hh.2.1; have z2 := hh.2.2; clear hh
        go_simp
        clear f0 f1 f2 z0 z1 z2
        have S8 := Lib.hid (show Sl.Sep w _ [L4.boxR w.heap.size 44 #[.string name, .slice a xs.length c, .int .i64 auto], L4.boxR (w.heap.size + 1) 49 #[.int .i64 kd, .int .i64 n, .string t], L4.boxR (w.heap.size + 1 + 1) 49 #[.int .i64 0, .int .i64 0, .string ⟨#[]⟩], Bag.bag (rowI (some ad) lc ys :: rowsI ys)] from L5.put_box5 (L5.put_box5 (L5.put_box5 (S7.out) 1 rfl 0 (.int .i64 kd)) 1 rfl 1 (.int .i64 n)) 1 rfl 2 (.string t))
        clear S7
        refine hK.out _ _ ⟨(readsI_at (LS.outer (s := ⟨⟨#[]⟩, some ad, lc, ys, 0⟩) (Bag.bag_rd S8.out 3 rfl)) j _ HX1.out).1, (readsI_at (LS.outer (s := ⟨⟨#[]⟩, some ad, lc, ys, 0⟩) (Bag.bag_rd S8.out 3 rfl)) j _ HX1.out).2.1, (readsI_at (LS.outer (s := ⟨⟨#[]⟩, some ad, lc, ys, 0⟩) (Bag.bag_rd S8.out 3 rfl)) j _ HX1.out).2.2.1, (readsI_at (LS.outer (s := ⟨⟨#[]⟩, some ad, lc, ys, 0⟩) (Bag.bag_rd S8.out 3 rfl)) j _ HX1.out).2.2.2, (readsI_at (LS.outer (s := ⟨⟨#[]⟩, some ad, lc, ys, 0⟩) (Bag.bag_rd S8.out 3 rfl)) (j + 1) _ HX2.out).1, (readsI_at (LS.outer (s := ⟨⟨#[]⟩, some ad, lc, ys, 0⟩) (Bag.bag_rd S8.out 3 rfl)) (j + 1) _ HX2.out).2.1, (readsI_at (LS.outer (s := ⟨⟨#[]⟩, some ad, lc, ys, 0⟩) (Bag.bag_rd S8.out 3 rfl)) (j + 1) _ HX2.out).2.2.1, (readsI_at (LS.outer (s := ⟨⟨#[]⟩, some ad, lc, ys, 0⟩) (Bag.bag_rd S8.out 3 rfl)) (j + 1) _ HX2.out).2.2.2⟩ (fun hS => ?_)
        clear hK K
        try simp only [zp0, zp1, zp2, zp3, zp4]
        refine Reg.one_op (i := 12) rfl (by kernel_rfl) (fun K hK => ?_)
        have hh := Bag.cs3 S8.out 2 rfl
        have f0 := hh.1; have f1 := hh.2.1; have f2 := hh.2.2; clear hh
        have hh := Bag.fs3 S8.out 2 rfl
        have z0 := hh.1; have z1 := hh.2.1; have z2 := hh.2.2; clear hh
        go_simp
        clear f0 f1 f2 z0 z1 z2
        have S9 := Lib.hid (show Sl.Sep w _ [L4.boxR w.heap.size 44 #[.string name, .slice a xs.length c, .int .i64 auto], L4.boxR (w.heap.size + 1) 49 #[.int .i64 kd, .int .i64 n, .string t], L4.boxR (w.heap.size + 1 + 1) 49 #[.int .i64 kd2, .int .i64 n2, .string t2], Bag.bag (rowI (some ad) lc ys :: rowsI ys)] from L5.put_box5 (L5.put_box5 (L5.put_box5 (S8.out) 2 rfl 0 (.int .i64 kd2)) 2 rfl 1 (.int .i64 n2)) 2 rfl 2 (.string t2))
        clear S8
        refine hK.out _ _ ⟨(readsI_at (LS.outer (s := ⟨⟨#[]⟩, some ad, lc, ys, 0⟩) (Bag.bag_rd S9.out 3 rfl)) j _ HX1.out).1, (readsI_at (LS.outer (s := ⟨⟨#[]⟩, some ad, lc, ys, 0⟩) (Bag.bag_rd S9.out 3 rfl)) j _ HX1.out).2.1, (readsI_at (LS.outer (s := ⟨⟨#[]⟩, some ad, lc, ys, 0⟩) (Bag.bag_rd S9.out 3 rfl)) j _ HX1.out).2.2.1, (readsI_at (LS.outer (s := ⟨⟨#[]⟩, some ad, lc, ys, 0⟩) (Bag.bag_rd S9.out 3 rfl)) j _ HX1.out).2.2.2, (readsI_at (LS.outer (s := ⟨⟨#[]⟩, some ad, lc, ys, 0⟩) (Bag.bag_rd S9.out 3 rfl)) (j + 1) _ HX2.out).1, (readsI_at (LS.outer (s := ⟨⟨#[]⟩, some ad, lc, ys, 0⟩) (Bag.bag_rd S9.out 3 rfl)) (j + 1) _ HX2.out).2.1, (readsI_at (LS.outer (s := ⟨⟨#[]⟩, some ad, lc, ys, 0⟩) (Bag.bag_rd S9.out 3 rfl)) (j + 1) _ HX2.out).2.2.1, (readsI_at (LS.outer (s := ⟨⟨#[]⟩, some ad, lc, ys, 0⟩) (Bag.bag_rd S9.out 3 rfl)) (j + 1) _ HX2.out).2.2.2⟩ (fun hS => ?_)
        clear hK K
        try simp only [zp0, zp1, zp2, zp3, zp4]
        refine tk 13 rfl ?_
        try simp only [zp0, zp1, zp2, zp3, zp4]
        refine wpAnyH_done (by kernel_rfl) ?_ _
        have hh := Bag.cs3 S9.out 0 rfl
        have f0 := hh.1; have f1 := hh.2.1; have f2 := hh.2.2; clear hh
        have hh := Bag.cs3 S9.out 1 rfl
        have f3 := hh.1; have f4 := hh.2.1; have f5 := hh.2.2; clear hh
        have hh := Bag.cs3 S9.out 2 rfl
        have f6 := hh.1; have f7 := hh.2.1; have f8 := hh.2.2; clear hh
        have f9 : World.cell? _ (ad.add (j * 4)) = some (.int .i64 kd) := (readsI_at (LS.outer (s := ⟨⟨#[]⟩, some ad, lc, ys, 0⟩) (Bag.bag_rd S9.out 3 rfl)) j _ HX1.out).1
        have f10 : World.cell? _ (⟨(ad.add (j * 4)).block, (ad.add (j * 4)).off + 1, none⟩) = some (.int .i64 n) := (readsI_at (LS.outer (s := ⟨⟨#[]⟩, some ad, lc, ys, 0⟩) (Bag.bag_rd S9.out 3 rfl)) j _ HX1.out).2.1
        have f11 : World.cell? _ (⟨(ad.add (j * 4)).block, (ad.add (j * 4)).off + 2, none⟩) = some (.string t) := (readsI_at (LS.outer (s := ⟨⟨#[]⟩, some ad, lc, ys, 0⟩) (Bag.bag_rd S9.out 3 rfl)) j _ HX1.out).2.2.1
        have f12 : World.cell? _ (⟨(ad.add (j * 4)).block, (ad.add (j * 4)).off + 3, none⟩) = some (.slice ia l.length ic) := (readsI_at (LS.outer (s := ⟨⟨#[]⟩, some ad, lc, ys, 0⟩) (Bag.bag_rd S9.out 3 rfl)) j _ HX1.out).2.2.2
        have f13 : World.cell? _ (ad.add ((j + 1) * 4)) = some (.int .i64 kd2) := (readsI_at (LS.outer (s := ⟨⟨#[]⟩, some ad, lc, ys, 0⟩) (Bag.bag_rd S9.out 3 rfl)) (j + 1) _ HX2.out).1
        have f14 : World.cell? _ (⟨(ad.add ((j + 1) * 4)).block, (ad.add ((j + 1) * 4)).off + 1, none⟩) = some (.int .i64 n2) := (readsI_at (LS.outer (s := ⟨⟨#[]⟩, some ad, lc, ys, 0⟩) (Bag.bag_rd S9.out 3 rfl)) (j + 1) _ HX2.out).2.1
        have f15 : World.cell? _ (⟨(ad.add ((j + 1) * 4)).block, (ad.add ((j + 1) * 4)).off + 2, none⟩) = some (.string t2) := (readsI_at (LS.outer (s := ⟨⟨#[]⟩, some ad, lc, ys, 0⟩) (Bag.bag_rd S9.out 3 rfl)) (j + 1) _ HX2.out).2.2.1
        have f16 : World.cell? _ (⟨(ad.add ((j + 1) * 4)).block, (ad.add ((j + 1) * 4)).off + 3, none⟩) = some (.slice ia2 l2.length ic2) := (readsI_at (LS.outer (s := ⟨⟨#[]⟩, some ad, lc, ys, 0⟩) (Bag.bag_rd S9.out 3 rfl)) (j + 1) _ HX2.out).2.2.2
        clear f0 f1 f2 f3 f4 f5 f6 f7 f8 f9 f10 f11 f12 f13 f14 f15 f16
        have hh := Bag.cs3 S9.out 1 rfl
        have f0 := hh.1; have f1 := hh.2.1; have f2 := hh.2.2; clear hh
        have hh := Bag.cs3 S9.out 2 rfl
        have f3 := hh.1; have f4 := hh.2.1; have f5 := hh.2.2; clear hh
        have f6 : World.cell? _ (ad.add (j * 4)) = some (.int .i64 kd) := (readsI_at (LS.outer (s := ⟨⟨#[]⟩, some ad, lc, ys, 0⟩) (Bag.bag_rd S9.out 3 rfl)) j _ HX1.out).1
        have f7 : World.cell? _ (⟨(ad.add (j * 4)).block, (ad.add (j * 4)).off + 1, none⟩) = some (.int .i64 n) := (readsI_at (LS.outer (s := ⟨⟨#[]⟩, some ad, lc, ys, 0⟩) (Bag.bag_rd S9.out 3 rfl)) j _ HX1.out).2.1
        have f8 : World.cell? _ (⟨(ad.add (j * 4)).block, (ad.add (j * 4)).off + 2, none⟩) = some (.string t) := (readsI_at (LS.outer (s := ⟨⟨#[]⟩, some ad, lc, ys, 0⟩) (Bag.bag_rd S9.out 3 rfl)) j _ HX1.out).2.2.1
        have f9 : World.cell? _ (⟨(ad.add (j * 4)).block, (ad.add (j * 4)).off + 3, none⟩) = some (.slice ia l.length ic) := (readsI_at (LS.outer (s := ⟨⟨#[]⟩, some ad, lc, ys, 0⟩) (Bag.bag_rd S9.out 3 rfl)) j _ HX1.out).2.2.2
        have f10 : World.cell? _ (ad.add ((j + 1) * 4)) = some (.int .i64 kd2) := (readsI_at (LS.outer (s := ⟨⟨#[]⟩, some ad, lc, ys, 0⟩) (Bag.bag_rd S9.out 3 rfl)) (j + 1) _ HX2.out).1
        have f11 : World.cell? _ (⟨(ad.add ((j + 1) * 4)).block, (ad.add ((j + 1) * 4)).off + 1, none⟩) = some (.int .i64 n2) := (readsI_at (LS.outer (s := ⟨⟨#[]⟩, some ad, lc, ys, 0⟩) (Bag.bag_rd S9.out 3 rfl)) (j + 1) _ HX2.out).2.1
        have f12 : World.cell? _ (⟨(ad.add ((j + 1) * 4)).block, (ad.add ((j + 1) * 4)).off + 2, none⟩) = some (.string t2) := (readsI_at (LS.outer (s := ⟨⟨#[]⟩, some ad, lc, ys, 0⟩) (Bag.bag_rd S9.out 3 rfl)) (j + 1) _ HX2.out).2.2.1
        have f13 : World.cell? _ (⟨(ad.add ((j + 1) * 4)).block, (ad.add ((j + 1) * 4)).off + 3, none⟩) = some (.slice ia2 l2.length ic2) := (readsI_at (LS.outer (s := ⟨⟨#[]⟩, some ad, lc, ys, 0⟩) (Bag.bag_rd S9.out 3 rfl)) (j + 1) _ HX2.out).2.2.2
        go_wp2_with fail
        refine bodyPost_ret (v := .tuple #[.agg #[.int .i64 kd, .int .i64 n, .string t], .agg #[.int .i64 kd2, .int .i64 n2, .string t2], .bool true]) (by simp [results, Try.results72, go_sem, *]) rfl ?_
        clear f0 f1 f2 f3 f4 f5 f6 f7 f8 f9 f10 f11 f12 f13
        obtain ⟨e1, e2, e3⟩ := uf_yes (ufO_some (t := f.data.toList) (l := conI ys) (i := j) (by rw [conI_length, ← HN.out]; omega) (by rw [HAD.out]; exact he') HA.out) HC1.out HC2.out
        exact ⟨by rw [← HY.out, e1, e2, e3]; rfl, S9.out.old⟩
      · have he' : (na == nb) = false := beq_no he
        go_wp2_with fail
        go_roundw
        case rel => exact ⟨j + 1, by omega, by go_num, And.intro (fun q hq => if e : q = j then by subst e; rw [HAD.out]; exact he' else HA.out q (by omega)) S6.out⟩
        case measure => simp [intOf]; omega
    · skip
      have hh := Bag.cs3 S3.out 1 rfl
      have f0 := hh.1; have f1 := hh.2.1; have f2 := hh.2.2; clear hh
      have hh := Bag.cs3 S3.out 2 rfl
      have f3 := hh.1; have f4 := hh.2.1; have f5 := hh.2.2; clear hh
      have hh := Bag.fs3 S3.out 1 rfl
      have z0 := hh.1; have z1 := hh.2.1; have z2 := hh.2.2; clear hh
      have y0 := Bag.free_at S3.out 2 rfl 0
      have y1 := Bag.free_at S3.out 2 rfl 1
      have y2 := Bag.free_at S3.out 2 rfl 2
      go_wp2_with fail
      clear f0 f1 f2 f3 f4 f5 z0 z1 z2 y0 y1 y2
      have S4 := Lib.hid (show Sl.Sep w _ [L4.boxR w.heap.size 44 #[.string name, .slice a xs.length c, .int .i64 auto], L4.boxR (w.heap.size + 1) 49 #[.int .i64 0, .int .i64 0, .string ⟨#[]⟩], L4.boxR (w.heap.size + 1 + 1) 49 #[.int .i64 0, .int .i64 0, .string ⟨#[]⟩], Bag.bag (rowI la lc ys :: rowsI ys)] from L5.put_box5 (L5.put_box5 (L5.put_box5 (S3.out) 1 rfl 0 (.int .i64 0)) 1 rfl 1 (.int .i64 0)) 1 rfl 2 (.string ⟨#[]⟩))
      clear S3
      have S5 := Lib.hid (show Sl.Sep w _ [L4.boxR w.heap.size 44 #[.string name, .slice a xs.length c, .int .i64 auto], L4.boxR (w.heap.size + 1) 49 #[.int .i64 0, .int .i64 0, .string ⟨#[]⟩], L4.boxR (w.heap.size + 1 + 1) 49 #[.int .i64 0, .int .i64 0, .string ⟨#[]⟩], Bag.bag (rowI la lc ys :: rowsI ys)] from L5.put_box5 (L5.put_box5 (L5.put_box5 (S4.out) 2 rfl 0 (.int .i64 0)) 2 rfl 1 (.int .i64 0)) 2 rfl 2 (.string ⟨#[]⟩))
      clear S4
      have hh := Bag.cs3 S5.out 1 rfl
      have f0 := hh.1; have f1 := hh.2.1; have f2 := hh.2.2; clear hh
      have hh := Bag.cs3 S5.out 2 rfl
      have f3 := hh.1; have f4 := hh.2.1; have f5 := hh.2.2; clear hh
      refine bodyPost_ret (v := .tuple #[.agg #[.int .i64 0, .int .i64 0, .string ⟨#[]⟩], .agg #[.int .i64 0, .int .i64 0, .string ⟨#[]⟩], .bool false]) (by simp [results, Try.results72, go_sem, *]) rfl ?_
      clear f0 f1 f2 f3 f4 f5
      obtain ⟨e1, e2, e3⟩ := uf_no (ufO_none (t := f.data.toList) (l := conI ys) (fun q hq => HA.out q (by rw [conI_length, ← HN.out] at hq; omega)))
      exact ⟨by rw [← HY.out, e1, e2, e3]; rfl, S5.out.old⟩
end Go.Proofs.Ytboefioalkjdaaa.L7

/-
  The contracts of chapter 8's functions of the program, I: FindStore, isKept, hasValidStores, hasValidIndexes, IsDatabase, copyDatabase. Conditions: names of at most 2^48 bytes, at most 2^20 stores, indexes, items and fields. (Written by my program gen_l8b.py.)
-/
namespace Go.Proofs.Ytboefioalkjdaaa.L8
set_option maxRecDepth 100000
open V L6 L7
open L4 (K isK cmpK)
open L5 (F isR isN string_geq)
open Go.Op (bytesLess)
open Go.ChangeShapes Go.WideShapes Go.ChangeAt Go.RowKit Mem Sl Ex L2 Sv Bag
set_option linter.unusedVariables false
set_option linter.unusedSimpArgs false

theorem ixV_map {α β : Type} (co : α → β) (p : β → Bool) (xs : List α) : ixV (fun x => p (co x)) xs = numO ((xs.map co).findIdx? p) := by
  unfold ixV numO
  rw [List.findIdx?_map]
  rfl
theorem eqX_comm (a b : X_IndexDef) : eqX a b = eqX b a := by
  cases h : eqX a b with
  | true => rw [eqX_iff] at h; subst h; exact (eqX_iff.2 rfl).symm
  | false =>
    cases h2 : eqX b a with
    | false => rfl
    | true => rw [eqX_iff] at h2; subst h2; rw [eqX_iff.2 rfl] at h; cases h
theorem fresh_eq {us : List X_IndexDef} {u : X_IndexDef} {i : Nat} : freshX us u i = !(fndX (us.take i) u).isSome := by
  unfold freshX fndX
  rw [List.findIdx?_isSome, List.any_eq_not_all_not, Bool.not_not]

set_option maxHeartbeats 2000000 in
theorem findStore1_any (x : LS) (n : ByteArray) (g : Nat) (w : World) (hg : g < w.heap.size) (h0 : w.cell? ⟨g, 0, none⟩ = some (.string n)) :
    Calls Try.prog 33 #[vv_Store x, .pointer (some ⟨g, 0, none⟩)] w fun e w' => e = .returned (.bool (hasN n x.con)) ∧ Below w.heap.size w w' := by
  have HK := Lib.hid (fun w' (h : Below w.heap.size w w') => (⟨(h.cell (p := ⟨g, 0, none⟩) hg).trans h0, trivial⟩ : w'.cell? ⟨g, 0, none⟩ = some (.string n) ∧ True).1)
  clear h0
  unfold vv_Store hasN
  dsimp only [LS.con]
  have S1 := Lib.hid (show Sl.Sep w (w.alloc (.cells #[.string x.name, .slice x.a x.xs.length x.c, .int .i64 x.auto] 44)) [L4.boxR w.heap.size 44 #[.string x.name, .slice x.a x.xs.length x.c, .int .i64 x.auto]] from L4.push_box (Sl.Sep.start w) 44 #[.string x.name, .slice x.a x.xs.length x.c, .int .i64 x.auto] (w.heap.size) (by simp))
  obtain ⟨wa, hwa⟩ : ∃ w_, w_ = (w.alloc (.cells #[.string x.name, .slice x.a x.xs.length x.c, .int .i64 x.auto] 44)) := ⟨_, rfl⟩
  rw [← hwa] at S1
  go_enter Try.func33, Try.ntmps33
  go_upto_region 1 with fail
  rw [← hwa]
  clear hwa
  have hh := Bag.cs3 S1.out 0 rfl
  have f0 := hh.1; have f1 := hh.2.1; have f2 := hh.2.2; clear hh
  have fk := HK.out _ S1.out.old
  go_wp2_with fail
  go_ret
  exact ⟨rfl, S1.out.old⟩
set_option maxHeartbeats 2000000 in
theorem findStore_any (z : Y_Database) (n : ByteArray) (hf : FitD (co_Database z)) (w : World) (hr : RowsRd w w.heap.size (rw_Database z)) :
    Calls Try.prog 13 #[vv_Database z, .string n] w fun e w' => e = .returned (.int .i64 (numO (fndS (co_Database z).f_Stores n))) ∧ Below w.heap.size w w' := by
  have HR : Hid (∀ w' (h : Below w.heap.size w w'), Reads w' w.heap.size z.f_Stores_a (z.f_Stores.flatMap cl_Store)) := Lib.hid (fun w' h => (rdS hr).below h)
  have HX : Hid (∀ w' (h : Below w.heap.size w w'), RowsRd w' w'.heap.size (rws_Store z.f_Stores)) := Lib.hid (fun w' h => ((rdX hr).below h).more h.size)
  have HU : Hid (∀ w' (h : Below w.heap.size w w'), Reads w' w.heap.size z.f_Unique_a (z.f_Unique.flatMap cl_IndexDef)) := Lib.hid (fun w' h => (rdU hr).below h)
  have HFD := Lib.hid hf
  have HFDl : z.f_Stores.length ≤ 1048576 := by have h := hf.len; rwa [co_len] at h
  have HFDm : z.f_Unique.length ≤ 1048576 := hf.many
  clear hf hr
  obtain ⟨name, ver, sa, sc, ss, ua, uc, us⟩ := z
  dsimp only [co_Database] at HR HX HU HFD HFDl HFDm
  try unfold vv_Database
  try unfold co_Database
  try dsimp only
  try rw [show coS_IndexDef us = us from rfl]
  rw [show coS_IndexDef us = us from rfl] at HFD
  obtain ⟨N, hN⟩ : ∃ n, n = ss.length := ⟨_, rfl⟩
  obtain ⟨M, hM⟩ : ∃ n, n = us.length := ⟨_, rfl⟩
  rw [← hN] at HFDl ⊢
  rw [← hM] at HFDm ⊢
  have HFDl' : (N : Int) ≤ 1048576 := by omega
  have HFDm' : (M : Int) ≤ 1048576 := by omega
  have HN := Lib.hid hN
  have HM := Lib.hid hM
  clear hN hM
  obtain ⟨R, hR⟩ : ∃ r, numO (fndS (coS_Store ss) n) = r := ⟨_, rfl⟩
  rw [hR]
  have HRR := Lib.hid (show numO ((ss.map LS.con).findIdx? (hasN n)) = R from hR)
  clear hR
  have hmf : ∀ (fn : Fn) (first cap : Array Value) (w : World), (Instr.makeFunc fn first cap).run Try.prog w = .ok (.func fn first cap) w := fun _ _ _ _ => rfl
  have S1 := Lib.hid (show Sl.Sep w ((w.alloc (.cells #[.string name, .int .i64 ver, .slice sa N sc, .slice ua M uc] 31)).alloc (.cells #[.string n] 9)) [L4.boxR w.heap.size 31 #[.string name, .int .i64 ver, .slice sa N sc, .slice ua M uc], L4.boxR (w.heap.size + 1) 9 #[.string n]] from L4.push_box (L4.push_box (Sl.Sep.start w) 31 #[.string name, .int .i64 ver, .slice sa N sc, .slice ua M uc] (w.heap.size) (by simp)) 9 #[.string n] (w.heap.size + 1) (by simp))
  obtain ⟨wa, hwa⟩ : ∃ w_, w_ = ((w.alloc (.cells #[.string name, .int .i64 ver, .slice sa N sc, .slice ua M uc] 31)).alloc (.cells #[.string n] 9)) := ⟨_, rfl⟩
  rw [← hwa] at S1
  go_enter Try.func13, Try.ntmps13
  go_upto_region 1 with fail
  rw [← hwa]
  clear hwa
  have hg0 := Bag.cell_at S1.out 1 rfl 0 rfl
  have hlt := (S1.out.lies 1 _ rfl (w.heap.size + 1) (by simp [L4.boxR])).2
  skip
  skip
  have hh := Bag.cs4 S1.out 0 rfl
  have f0 := hh.1; have f1 := hh.2.1; have f2 := hh.2.2.1; have f3 := hh.2.2.2; clear hh
  have f4 := Bag.cs1 S1.out 1 rfl
  go_wp2_with fail
  go_at_call 32
  have HIX := indexFunc_Store (w.heap.size + 1) (fun x => hasN n x.con) sa sc ss (by have := HN.out; omega) _ ((HR.out _ S1.out.old).more S1.out.old.size) (fun x hx w' hb => findStore1_any x n _ w' (Nat.lt_of_lt_of_le hlt hb.size) ((hb.cell (p := ⟨w.heap.size + 1, 0, none⟩) hlt).trans hg0))
  rw [ixV_map LS.con (hasN n) ss, HRR.out, ← HN.out] at HIX
  refine HIX.mono ?_
  rintro e w3 ⟨rfl, hb⟩
  clear HIX hg0 hlt
  clear f0 f1 f2 f3 f4
  have S2 := Lib.hid (S1.out.keep hb)
  clear S1
  clear hb
  go_wp2_with fail
  go_ret
  exact ⟨rfl, S2.out.old⟩
set_option maxHeartbeats 4000000 in
theorem indexX_any (a : Option Addr) (c : Nat) (us : List X_IndexDef) (u : X_IndexDef) (hl : us.length ≤ 1048576) (w : World) (hr : Reads w w.heap.size a (us.flatMap cl_IndexDef)) :
    Calls Try.prog 71 #[.slice a us.length c, vv_IndexDef u] w fun e w' => e = .returned (.int .i64 (numO (fndX us u))) ∧ Below w.heap.size w w' := by
  have HU := Lib.hid (fun w' (h : Below w.heap.size w w') => hr.below h)
  obtain ⟨M, hM⟩ : ∃ n, n = us.length := ⟨_, rfl⟩
  rw [← hM] at hl ⊢
  have hl' : (M : Int) ≤ 1048576 := by omega
  have HM := Lib.hid hM
  clear hM hr
  unfold vv_IndexDef
  have S1 := Lib.hid (show Sl.Sep w (w.alloc (.cells #[.string u.f_Store, .string u.f_Field] 46)) [L4.boxR w.heap.size 46 #[.string u.f_Store, .string u.f_Field]] from L4.push_box (Sl.Sep.start w) 46 #[.string u.f_Store, .string u.f_Field] (w.heap.size) (by simp))
  obtain ⟨wa, hwa⟩ : ∃ w_, w_ = (w.alloc (.cells #[.string u.f_Store, .string u.f_Field] 46)) := ⟨_, rfl⟩
  rw [← hwa] at S1
  go_enter Try.func71, Try.ntmps71
  go_upto_region 1 with fail
  rw [← hwa]
  clear hwa
  go_wp2_with fail
  go_loopw [8] (fun i wr => ∃ k : Nat, k ≤ M ∧ i = .int .i64 k ∧ Hid ((∀ j (hj : j < us.length), j < k → eqX us[j] u = false) ∧ Sl.Sep w wr [L4.boxR w.heap.size 46 #[.string u.f_Store, .string u.f_Field]])) (fun i _ => M - (intOf i).toNat)
  case atStart => exact ⟨0, Nat.zero_le _, rfl, And.intro (fun j hj h => absurd h (by omega)) S1.out⟩
  case round =>
    obtain ⟨k, hk, rfl, hrel⟩ := hrel
    have HA := Lib.hid hrel.out.1
    have S2 := Lib.hid hrel.out.2
    clear hrel S1
    by_cases hlt : (k : Int) < (M : Int)
    · skip
      have hkl : k < us.length := by have := HM.out; omega
      obtain ⟨v, hv⟩ : ∃ x, us[k]? = some x := ⟨_, List.getElem?_eq_getElem hkl⟩
      obtain ⟨uad, e'⟩ := el_some cl_IndexDef_len (by decide) (HU.out _ S2.out.old) hkl
      subst e'
      have HKv := Lib.hid (fun w' (h : Below w.heap.size w w') => el2 cl_IndexDef_len (HU.out _ h) hv rfl)
      obtain ⟨b, hb⟩ : ∃ b, eqX u v = b := ⟨_, rfl⟩
      have HE := fun w => index_eq u v w
      rw [hb] at HE
      have HB := Lib.hid (show eqX us[k] u = b from by rw [(List.getElem?_eq_some_iff.1 hv).2, eqX_comm]; exact hb)
      clear hb hv
      have hh := Bag.cs2 S2.out 0 rfl
      have f0 := hh.1; have f1 := hh.2; clear hh
      have hh := HKv.out _ S2.out.old
      have f2 := hh.1; have f3 := hh.2; clear hh
      cases b with
      | true =>
        go_upto_region 4 with fail
        clear f0 f1 f2 f3
        refine wp_region_held_drew (S := (fun w' => (World.cell? w' ⟨w.heap.size, 0, none⟩ = some (.string u.f_Store) ∧ World.cell? w' ⟨w.heap.size, 1, none⟩ = some (.string u.f_Field)) ∧ (World.cell? w' (uad.add (k * 2)) = some (.string v.f_Store) ∧ World.cell? w' (⟨(uad.add (k * 2)).block, (uad.add (k * 2)).off + 1, none⟩) = some (.string v.f_Field)))) (by kernel_rfl) ⟨Bag.cs2 (Bag.drew1 S2.out) 0 rfl, HKv.out _ (Bag.drew1 S2.out).old⟩ (fun hS => ?_)
        have S3 := Lib.hid (show Sl.Sep w _ [L4.boxR w.heap.size 46 #[.string u.f_Store, .string u.f_Field]] from Bag.drew1 S2.out)
        clear S2
        generalize World.drew _ = w1 at hS S3 ⊢
        refine tk 0 rfl ?_
        try simp only [zp0, zp1, zp2, zp3, zp4]
        refine tk 1 rfl ?_
        try simp only [zp0, zp1, zp2, zp3, zp4]
        refine tk 2 rfl ?_
        try simp only [zp0, zp1, zp2, zp3, zp4]
        refine tk 3 rfl ?_
        try simp only [zp0, zp1, zp2, zp3, zp4]
        refine tk 4 rfl ?_
        try simp only [zp0, zp1, zp2, zp3, zp4]
        refine tk 5 rfl ?_
        try simp only [zp0, zp1, zp2, zp3, zp4]
        refine wpAnyH_done (by kernel_rfl) ?_ _
        have hh := Bag.cs2 S3.out 0 rfl
        have f0 := hh.1; have f1 := hh.2; clear hh
        have hh := HKv.out _ S3.out.old
        have f2 := hh.1; have f3 := hh.2; clear hh
        go_wp2_with fail
        go_ret
        exact ⟨by unfold fndX; rw [idx_at (p := fun v => eqX v u) k hkl HB.out HA.out]; rfl, S3.out.old⟩
      | false =>
        go_upto_region 4 with fail
        clear f0 f1 f2 f3
        refine wp_region_held_drew (S := (fun w' => (World.cell? w' ⟨w.heap.size, 0, none⟩ = some (.string u.f_Store) ∧ World.cell? w' ⟨w.heap.size, 1, none⟩ = some (.string u.f_Field)) ∧ (World.cell? w' (uad.add (k * 2)) = some (.string v.f_Store) ∧ World.cell? w' (⟨(uad.add (k * 2)).block, (uad.add (k * 2)).off + 1, none⟩) = some (.string v.f_Field)))) (by kernel_rfl) ⟨Bag.cs2 (Bag.drew1 S2.out) 0 rfl, HKv.out _ (Bag.drew1 S2.out).old⟩ (fun hS => ?_)
        have S3 := Lib.hid (show Sl.Sep w _ [L4.boxR w.heap.size 46 #[.string u.f_Store, .string u.f_Field]] from Bag.drew1 S2.out)
        clear S2
        generalize World.drew _ = w1 at hS S3 ⊢
        refine tk 0 rfl ?_
        try simp only [zp0, zp1, zp2, zp3, zp4]
        refine tk 1 rfl ?_
        try simp only [zp0, zp1, zp2, zp3, zp4]
        refine tk 2 rfl ?_
        try simp only [zp0, zp1, zp2, zp3, zp4]
        refine tk 3 rfl ?_
        try simp only [zp0, zp1, zp2, zp3, zp4]
        refine tk 4 rfl ?_
        try simp only [zp0, zp1, zp2, zp3, zp4]
        refine tk 5 rfl ?_
        try simp only [zp0, zp1, zp2, zp3, zp4]
        refine wpAnyH_done (by kernel_rfl) ?_ _
        have hh := Bag.cs2 S3.out 0 rfl
        have f0 := hh.1; have f1 := hh.2; clear hh
        have hh := HKv.out _ S3.out.old
        have f2 := hh.1; have f3 := hh.2; clear hh
        go_wp2_with fail
        go_roundw
        case rel => exact ⟨k + 1, by omega, by go_num, And.intro (fun j hj h => by
          by_cases e : j < k
          · exact HA.out j hj e
          · obtain rfl : j = k := by omega
            exact HB.out) S3.out⟩
        case measure => simp [intOf]; omega
    · skip
      have hh := Bag.cs2 S2.out 0 rfl
      have f0 := hh.1; have f1 := hh.2; clear hh
      obtain rfl : k = M := by omega
      go_wp2_with fail
      go_ret
      exact ⟨by unfold fndX; rw [idx_none (p := fun v => eqX v u) (fun j hj => HA.out j hj (by have := HM.out; omega))]; rfl, S2.out.old⟩
set_option maxHeartbeats 2000000 in
theorem containsX_any (a : Option Addr) (c : Nat) (us : List X_IndexDef) (u : X_IndexDef) (hl : us.length ≤ 1048576) (w : World) (hr : Reads w w.heap.size a (us.flatMap cl_IndexDef)) :
    Calls Try.prog 51 #[.slice a us.length c, vv_IndexDef u] w fun e w' => e = .returned (.bool (fndX us u).isSome) ∧ Below w.heap.size w w' := by
  have HIX := fun w' (h : Below w.heap.size w w') => indexX_any a c us u hl w' ((hr.below h).more h.size)
  obtain ⟨M, hM⟩ : ∃ n, n = us.length := ⟨_, rfl⟩
  rw [← hM] at HIX ⊢
  clear hM hl hr
  unfold vv_IndexDef at HIX ⊢
  obtain ⟨o, ho⟩ : ∃ o, fndX us u = o := ⟨_, rfl⟩
  rw [ho] at HIX ⊢
  clear ho
  replace HIX := Lib.hid HIX
  have S1 := Lib.hid (show Sl.Sep w (w.alloc (.cells #[.string u.f_Store, .string u.f_Field] 46)) [L4.boxR w.heap.size 46 #[.string u.f_Store, .string u.f_Field]] from L4.push_box (Sl.Sep.start w) 46 #[.string u.f_Store, .string u.f_Field] (w.heap.size) (by simp))
  obtain ⟨wa, hwa⟩ : ∃ w_, w_ = (w.alloc (.cells #[.string u.f_Store, .string u.f_Field] 46)) := ⟨_, rfl⟩
  rw [← hwa] at S1
  go_enter Try.func51, Try.ntmps51
  go_upto_region 1 with fail
  rw [← hwa]
  clear hwa
  have hh := Bag.cs2 S1.out 0 rfl
  have f0 := hh.1; have f1 := hh.2; clear hh
  go_wp2_with fail
  go_at_call 71
  refine (HIX.out _ S1.out.old).mono ?_
  rintro e w1 ⟨rfl, hb⟩
  clear f0 f1
  have S2 := Lib.hid (S1.out.keep hb)
  clear S1
  clear hb
  have hh := Bag.cs2 S2.out 0 rfl
  have f0 := hh.1; have f1 := hh.2; clear hh
  cases o with
  | none =>
    go_wp2_with fail
    go_ret
    exact ⟨rfl, S2.out.old⟩
  | some i =>
    have h0 : (0 : Int) ≤ (i : Int) := by omega
    dsimp only [numO]
    go_wp2_with fail
    go_ret
    exact ⟨by simp, S2.out.old⟩
set_option maxHeartbeats 8000000 in
theorem isKept_any (z : Y_Database) (u : X_IndexDef) (hf : FitD (co_Database z)) (hu : FitX u) (w : World) (hr : RowsRd w w.heap.size (rw_Database z)) :
    Calls Try.prog 52 #[vv_Database z, vv_IndexDef u] w fun e w' => e = .returned (.bool (keptX (co_Database z).f_Stores u)) ∧ Below w.heap.size w w' := by
  have HFS := Lib.hid (fun (n : ByteArray) w' (h : Below w.heap.size w w') => findStore_any z n hf w' ((hr.below h).more h.size))
  unfold vv_Database co_Database at HFS
  have HR : Hid (∀ w' (h : Below w.heap.size w w'), Reads w' w.heap.size z.f_Stores_a (z.f_Stores.flatMap cl_Store)) := Lib.hid (fun w' h => (rdS hr).below h)
  have HX : Hid (∀ w' (h : Below w.heap.size w w'), RowsRd w' w'.heap.size (rws_Store z.f_Stores)) := Lib.hid (fun w' h => ((rdX hr).below h).more h.size)
  have HU : Hid (∀ w' (h : Below w.heap.size w w'), Reads w' w.heap.size z.f_Unique_a (z.f_Unique.flatMap cl_IndexDef)) := Lib.hid (fun w' h => (rdU hr).below h)
  have HFD := Lib.hid hf
  have HFDl : z.f_Stores.length ≤ 1048576 := by have h := hf.len; rwa [co_len] at h
  have HFDm : z.f_Unique.length ≤ 1048576 := hf.many
  clear hf hr
  obtain ⟨name, ver, sa, sc, ss, ua, uc, us⟩ := z
  dsimp only [co_Database] at HR HX HU HFD HFDl HFDm
  try unfold vv_Database
  try unfold co_Database
  try dsimp only
  try rw [show coS_IndexDef us = us from rfl]
  rw [show coS_IndexDef us = us from rfl] at HFD
  obtain ⟨N, hN⟩ : ∃ n, n = ss.length := ⟨_, rfl⟩
  obtain ⟨M, hM⟩ : ∃ n, n = us.length := ⟨_, rfl⟩
  rw [← hN] at HFDl ⊢
  rw [← hM] at HFDm ⊢
  have HFDl' : (N : Int) ≤ 1048576 := by omega
  have HFDm' : (M : Int) ≤ 1048576 := by omega
  have HN := Lib.hid hN
  have HM := Lib.hid hM
  clear hN hM
  rw [← HN.out, ← HM.out] at HFS
  try dsimp only at HFS
  have HFu := Lib.hid hu
  unfold vv_IndexDef
  have S1 := Lib.hid (show Sl.Sep w ((w.alloc (.cells #[.string name, .int .i64 ver, .slice sa N sc, .slice ua M uc] 31)).alloc (.cells #[.string u.f_Store, .string u.f_Field] 46)) [L4.boxR w.heap.size 31 #[.string name, .int .i64 ver, .slice sa N sc, .slice ua M uc], L4.boxR (w.heap.size + 1) 46 #[.string u.f_Store, .string u.f_Field]] from L4.push_box (L4.push_box (Sl.Sep.start w) 31 #[.string name, .int .i64 ver, .slice sa N sc, .slice ua M uc] (w.heap.size) (by simp)) 46 #[.string u.f_Store, .string u.f_Field] (w.heap.size + 1) (by simp))
  obtain ⟨wa, hwa⟩ : ∃ w_, w_ = ((w.alloc (.cells #[.string name, .int .i64 ver, .slice sa N sc, .slice ua M uc] 31)).alloc (.cells #[.string u.f_Store, .string u.f_Field] 46)) := ⟨_, rfl⟩
  rw [← hwa] at S1
  go_enter Try.func52, Try.ntmps52
  go_upto_region 1 with fail
  rw [← hwa]
  clear hwa
  have HFI := fun w' (h : Below w.heap.size w w') => HFS.out u.f_Store w' h
  cases hfo : fndS (coS_Store ss) u.f_Store with
  | none =>
    rw [hfo] at HFI
    dsimp only [numO] at HFI
    replace HFI := Lib.hid HFI
    have HFO := Lib.hid hfo
    clear hfo
    have hh := Bag.cs4 S1.out 0 rfl
    have f0 := hh.1; have f1 := hh.2.1; have f2 := hh.2.2.1; have f3 := hh.2.2.2; clear hh
    have hh := Bag.cs2 S1.out 1 rfl
    have f4 := hh.1; have f5 := hh.2; clear hh
    go_wp2_with fail
    go_at_call 13
    refine (HFI.out _ S1.out.old).mono ?_
    rintro e w1 ⟨rfl, hb⟩
    clear f0 f1 f2 f3 f4 f5
    have S2 := Lib.hid (S1.out.keep hb)
    clear S1
    clear hb
    have hh := Bag.cs4 S2.out 0 rfl
    have f0 := hh.1; have f1 := hh.2.1; have f2 := hh.2.2.1; have f3 := hh.2.2.2; clear hh
    have hh := Bag.cs2 S2.out 1 rfl
    have f4 := hh.1; have f5 := hh.2; clear hh
    go_wp2_with fail
    go_ret
    exact ⟨by unfold keptX; rw [HFO.out]; rfl, S2.out.old⟩
  | some i =>
    have hil : i < ss.length := by obtain ⟨h1, _⟩ := idx_some hfo; rw [coS_len] at h1; exact h1
    have hiN : (i : Int) < (N : Int) := by have := HN.out; omega
    rw [hfo] at HFI
    dsimp only [numO] at HFI
    replace HFI := Lib.hid HFI
    have HFO := Lib.hid hfo
    clear hfo
    have hh := Bag.cs4 S1.out 0 rfl
    have f0 := hh.1; have f1 := hh.2.1; have f2 := hh.2.2.1; have f3 := hh.2.2.2; clear hh
    have hh := Bag.cs2 S1.out 1 rfl
    have f4 := hh.1; have f5 := hh.2; clear hh
    go_wp2_with fail
    go_at_call 13
    refine (HFI.out _ S1.out.old).mono ?_
    rintro e w1 ⟨rfl, hb⟩
    clear f0 f1 f2 f3 f4 f5
    have S2 := Lib.hid (S1.out.keep hb)
    clear S1
    clear hb
    have hh := Bag.cs4 S2.out 0 rfl
    have f0 := hh.1; have f1 := hh.2.1; have f2 := hh.2.2.1; have f3 := hh.2.2.2; clear hh
    have hh := Bag.cs2 S2.out 1 rfl
    have f4 := hh.1; have f5 := hh.2; clear hh
    clear f0 f1 f2 f3 f4 f5
    obtain ⟨bn, hbn⟩ : ∃ b, isN u.f_Field.data.toList = b := ⟨_, rfl⟩
    have HIN := fun w => L5.isName_any u.f_Field HFu.out.field w
    rw [hbn] at HIN
    replace HIN := Lib.hid HIN
    have HBN := Lib.hid hbn
    clear hbn
    have hh := Bag.cs4 S2.out 0 rfl
    have f0 := hh.1; have f1 := hh.2.1; have f2 := hh.2.2.1; have f3 := hh.2.2.2; clear hh
    have hh := Bag.cs2 S2.out 1 rfl
    have f4 := hh.1; have f5 := hh.2; clear hh
    cases bn with
    | false =>
      go_wp2_with fail
      go_at_call 26
      refine (HIN.out _).mono ?_
      rintro e w2 ⟨rfl, rfl⟩
      go_wp2_with fail
      go_ret
      exact ⟨by unfold keptX; rw [HFO.out]; dsimp only; rw [HBN.out]; rfl, S2.out.old⟩
    | true =>
      go_wp2_with fail
      go_at_call 26
      refine (HIN.out _).mono ?_
      rintro e w2 ⟨rfl, rfl⟩
      clear f0 f1 f2 f3 f4 f5
      obtain ⟨x, hx⟩ : ∃ x, ss[i]? = some x := ⟨_, List.getElem?_eq_getElem hil⟩
      obtain ⟨sad, e'⟩ := el_some cl_Store_len (by decide) (HR.out _ S2.out.old) hil
      subst e'
      have HKx := Lib.hid (fun w' (h : Below w.heap.size w w') => el3 cl_Store_len (HR.out _ h) hx rfl)
      have HRx := Lib.hid (fun w' (h : Below w.heap.size w w') => rd_store (HX.out w' h) hx)
      have HFx := Lib.hid (fit_store HFD.out.stores hx)
      have HCx := Lib.hid (coS_at hx)
      clear hx
      obtain ⟨bu, hbu⟩ : ∃ b, ufB u.f_Field.data.toList (idxI x.con.items u.f_Field.data.toList) = b := ⟨_, rfl⟩
      obtain ⟨KA, hKA⟩ : ∃ b, ufA u.f_Field.data.toList (idxI x.con.items u.f_Field.data.toList) = b := ⟨_, rfl⟩
      obtain ⟨KZ, hKZ⟩ : ∃ b, ufZ u.f_Field.data.toList (idxI x.con.items u.f_Field.data.toList) = b := ⟨_, rfl⟩
      have HUF := fun w' (h : Below w.heap.size w w') => uniqueFault_any x u.f_Field HFx.out w' (HRx.out w' h)
      rw [hbu, hKA, hKZ] at HUF
      dsimp only [LS.v, LS.cells, K.v] at HUF
      replace HUF := Lib.hid HUF
      have HBX := Lib.hid (show badX (coS_Store ss) i u.f_Field = bu from by unfold badX; rw [HCx.out]; exact hbu)
      clear hbu hKA hKZ
      have HKP := Lib.hid (show keptX (coS_Store ss) u = !bu from by unfold keptX; rw [HFO.out]; dsimp only; rw [HBN.out, HBX.out]; cases bu <;> rfl)
      have hh := Bag.cs4 S2.out 0 rfl
      have f0 := hh.1; have f1 := hh.2.1; have f2 := hh.2.2.1; have f3 := hh.2.2.2; clear hh
      have hh := Bag.cs2 S2.out 1 rfl
      have f4 := hh.1; have f5 := hh.2; clear hh
      have hh := HKx.out _ S2.out.old
      have f6 := hh.1; have f7 := hh.2.1; have f8 := hh.2.2; clear hh
      go_upto_region 4 with fail
      clear f0 f1 f2 f3 f4 f5 f6 f7 f8
      refine wp_region_held_drew (S := (fun w' => (World.cell? w' ⟨w.heap.size, 0, none⟩ = some (.string name) ∧ World.cell? w' ⟨w.heap.size, 1, none⟩ = some (.int .i64 ver) ∧ World.cell? w' ⟨w.heap.size, 2, none⟩ = some (.slice (some sad) N sc) ∧ World.cell? w' ⟨w.heap.size, 3, none⟩ = some (.slice ua M uc)) ∧ (World.cell? w' ⟨w.heap.size + 1, 0, none⟩ = some (.string u.f_Store) ∧ World.cell? w' ⟨w.heap.size + 1, 1, none⟩ = some (.string u.f_Field)) ∧ (World.cell? w' (sad.add (i * 3)) = some (.string x.name) ∧ World.cell? w' (⟨(sad.add (i * 3)).block, (sad.add (i * 3)).off + 1, none⟩) = some (.slice x.a x.xs.length x.c) ∧ World.cell? w' (⟨(sad.add (i * 3)).block, (sad.add (i * 3)).off + 2, none⟩) = some (.int .i64 x.auto)))) (by kernel_rfl) ⟨Bag.cs4 (Bag.drew1 S2.out) 0 rfl, Bag.cs2 (Bag.drew1 S2.out) 1 rfl, HKx.out _ (Bag.drew1 S2.out).old⟩ (fun hS => ?_)
      have S3 := Lib.hid (show Sl.Sep w _ [L4.boxR w.heap.size 31 #[.string name, .int .i64 ver, .slice (some sad) N sc, .slice ua M uc], L4.boxR (w.heap.size + 1) 46 #[.string u.f_Store, .string u.f_Field]] from Bag.drew1 S2.out)
      clear S2
      generalize World.drew _ = w3 at hS S3 ⊢
      refine tk 0 rfl ?_
      try simp only [zp0, zp1, zp2, zp3, zp4]
      refine tk 1 rfl ?_
      try simp only [zp0, zp1, zp2, zp3, zp4]
      refine tk 2 rfl ?_
      try simp only [zp0, zp1, zp2, zp3, zp4]
      refine tk 3 rfl ?_
      try simp only [zp0, zp1, zp2, zp3, zp4]
      refine tk 4 rfl ?_
      try simp only [zp0, zp1, zp2, zp3, zp4]
      refine tk 5 rfl ?_
      try simp only [zp0, zp1, zp2, zp3, zp4]
      refine tk 6 rfl ?_
      try simp only [zp0, zp1, zp2, zp3, zp4]
      refine wpAnyH_ready (rs := [7, 12, 13]) (by kernel_rfl) (by simp) ?_
      refine Reg.cons_op (i := 7) rfl (fun K hK => ?_) ?_
      · skip
        go_simp
        go_at_call 72
        refine (HUF.out _ S3.out.old).mono ?_
        rintro e w4 ⟨rfl, hb⟩
        have S4 := Lib.hid (S3.out.keep hb)
        clear S3
        clear hb
        go_wp2_with fail
        refine hK.out _ _ ⟨Bag.cs4 S4.out 0 rfl, Bag.cs2 S4.out 1 rfl, HKx.out _ S4.out.old⟩ (fun hS => ?_)
        clear hK K
        try simp only [zp0, zp1, zp2, zp3, zp4]
        refine tk 8 rfl ?_
        try simp only [zp0, zp1, zp2, zp3, zp4]
        refine tk 9 rfl ?_
        try simp only [zp0, zp1, zp2, zp3, zp4]
        refine tk 10 rfl ?_
        try simp only [zp0, zp1, zp2, zp3, zp4]
        refine tk 11 rfl ?_
        try simp only [zp0, zp1, zp2, zp3, zp4]
        refine wpAnyH_ready (rs := [12, 13]) (by kernel_rfl) (by simp) ?_
        refine Reg.cons_op (i := 12) rfl (fun K hK => ?_) ?_
        · skip
          go_simp
          have S5 := Lib.hid (show Sl.Sep w _ [L4.boxR w.heap.size 31 #[.string name, .int .i64 ver, .slice (some sad) N sc, .slice ua M uc], L4.boxR (w.heap.size + 1) 46 #[.string u.f_Store, .string u.f_Field], L4.boxR w4.heap.size 49 #[.int .i64 0, .int .i64 0, .string ⟨#[]⟩]] from L4.push_box S4.out 49 #[.int .i64 0, .int .i64 0, .string ⟨#[]⟩] w4.heap.size rfl)
          clear S4
          obtain ⟨g1, hg⟩ : ∃ g', g' = w4.heap.size := ⟨_, rfl⟩
          rw [← hg] at S5 ⊢
          clear hg
          generalize w4.alloc (.cells #[.int .i64 0, .int .i64 0, .string ⟨#[]⟩] 49) = w5 at S5 ⊢
          refine hK.out _ _ ⟨Bag.cs4 S5.out 0 rfl, Bag.cs2 S5.out 1 rfl, HKx.out _ S5.out.old⟩ (fun hS => ?_)
          clear hK K
          try simp only [zp0, zp1, zp2, zp3, zp4]
          refine Reg.one_op (i := 13) rfl (by kernel_rfl) (fun K hK => ?_)
          go_simp
          have S6 := Lib.hid (show Sl.Sep w _ [L4.boxR w.heap.size 31 #[.string name, .int .i64 ver, .slice (some sad) N sc, .slice ua M uc], L4.boxR (w.heap.size + 1) 46 #[.string u.f_Store, .string u.f_Field], L4.boxR g1 49 #[.int .i64 0, .int .i64 0, .string ⟨#[]⟩], L4.boxR w5.heap.size 49 #[.int .i64 0, .int .i64 0, .string ⟨#[]⟩]] from L4.push_box S5.out 49 #[.int .i64 0, .int .i64 0, .string ⟨#[]⟩] w5.heap.size rfl)
          clear S5
          obtain ⟨g2, hg⟩ : ∃ g', g' = w5.heap.size := ⟨_, rfl⟩
          rw [← hg] at S6 ⊢
          clear hg
          generalize w5.alloc (.cells #[.int .i64 0, .int .i64 0, .string ⟨#[]⟩] 49) = w6 at S6 ⊢
          refine hK.out _ _ ⟨Bag.cs4 S6.out 0 rfl, Bag.cs2 S6.out 1 rfl, HKx.out _ S6.out.old⟩ (fun hS => ?_)
          clear hK K
          try simp only [zp0, zp1, zp2, zp3, zp4]
          refine Reg.one_op (i := 14) rfl (by kernel_rfl) (fun K hK => ?_)
          have hh := Bag.cs3 S6.out 2 rfl
          have f0 := hh.1; have f1 := hh.2.1; have f2 := hh.2.2; clear hh
          have hh := Bag.fs3 S6.out 2 rfl
          have z0 := hh.1; have z1 := hh.2.1; have z2 := hh.2.2; clear hh
          go_simp
          clear f0 f1 f2 z0 z1 z2
          have S7 := Lib.hid (show Sl.Sep w _ [L4.boxR w.heap.size 31 #[.string name, .int .i64 ver, .slice (some sad) N sc, .slice ua M uc], L4.boxR (w.heap.size + 1) 46 #[.string u.f_Store, .string u.f_Field], L4.boxR g1 49 #[.int .i64 KA.kind, .int .i64 KA.n, .string KA.text], L4.boxR g2 49 #[.int .i64 0, .int .i64 0, .string ⟨#[]⟩]] from L5.put_box5 (L5.put_box5 (L5.put_box5 (S6.out) 2 rfl 0 (.int .i64 KA.kind)) 2 rfl 1 (.int .i64 KA.n)) 2 rfl 2 (.string KA.text))
          clear S6
          refine hK.out _ _ ⟨Bag.cs4 S7.out 0 rfl, Bag.cs2 S7.out 1 rfl, HKx.out _ S7.out.old⟩ (fun hS => ?_)
          clear hK K
          try simp only [zp0, zp1, zp2, zp3, zp4]
          refine Reg.one_op (i := 15) rfl (by kernel_rfl) (fun K hK => ?_)
          have hh := Bag.cs3 S7.out 3 rfl
          have f0 := hh.1; have f1 := hh.2.1; have f2 := hh.2.2; clear hh
          have hh := Bag.fs3 S7.out 3 rfl
          have z0 := hh.1; have z1 := hh.2.1; have z2 := hh.2.2; clear hh
          go_simp
          clear f0 f1 f2 z0 z1 z2
          have S8 := Lib.hid (show Sl.Sep w _ [L4.boxR w.heap.size 31 #[.string name, .int .i64 ver, .slice (some sad) N sc, .slice ua M uc], L4.boxR (w.heap.size + 1) 46 #[.string u.f_Store, .string u.f_Field], L4.boxR g1 49 #[.int .i64 KA.kind, .int .i64 KA.n, .string KA.text], L4.boxR g2 49 #[.int .i64 KZ.kind, .int .i64 KZ.n, .string KZ.text]] from L5.put_box5 (L5.put_box5 (L5.put_box5 (S7.out) 3 rfl 0 (.int .i64 KZ.kind)) 3 rfl 1 (.int .i64 KZ.n)) 3 rfl 2 (.string KZ.text))
          clear S7
          refine hK.out _ _ ⟨Bag.cs4 S8.out 0 rfl, Bag.cs2 S8.out 1 rfl, HKx.out _ S8.out.old⟩ (fun hS => ?_)
          clear hK K
          try simp only [zp0, zp1, zp2, zp3, zp4]
          refine tk 16 rfl ?_
          try simp only [zp0, zp1, zp2, zp3, zp4]
          refine wpAnyH_done (by kernel_rfl) ?_ _
          have hh := Bag.cs4 S8.out 0 rfl
          have f0 := hh.1; have f1 := hh.2.1; have f2 := hh.2.2.1; have f3 := hh.2.2.2; clear hh
          have hh := Bag.cs2 S8.out 1 rfl
          have f4 := hh.1; have f5 := hh.2; clear hh
          have hh := Bag.cs3 S8.out 2 rfl
          have f6 := hh.1; have f7 := hh.2.1; have f8 := hh.2.2; clear hh
          have hh := Bag.cs3 S8.out 3 rfl
          have f9 := hh.1; have f10 := hh.2.1; have f11 := hh.2.2; clear hh
          have hh := HKx.out _ S8.out.old
          have f12 := hh.1; have f13 := hh.2.1; have f14 := hh.2.2; clear hh
          clear f0 f1 f2 f3 f4 f5 f6 f7 f8 f9 f10 f11 f12 f13 f14
          have S9 := Lib.hid (show Sl.Sep w _ [L4.boxR w.heap.size 31 #[.string name, .int .i64 ver, .slice (some sad) N sc, .slice ua M uc], L4.boxR (w.heap.size + 1) 46 #[.string u.f_Store, .string u.f_Field]] from Bag.take S8.out [0, 1] (by rfl) (by decide))
          clear S8
          go_wp2_with fail
          go_ret
          exact ⟨by rw [HKP.out] <;> rfl, S9.out.old⟩
        refine Reg.cons_op (i := 13) rfl (fun K hK => ?_) ?_
        · skip
          go_simp
          have S5 := Lib.hid (show Sl.Sep w _ [L4.boxR w.heap.size 31 #[.string name, .int .i64 ver, .slice (some sad) N sc, .slice ua M uc], L4.boxR (w.heap.size + 1) 46 #[.string u.f_Store, .string u.f_Field], L4.boxR w4.heap.size 49 #[.int .i64 0, .int .i64 0, .string ⟨#[]⟩]] from L4.push_box S4.out 49 #[.int .i64 0, .int .i64 0, .string ⟨#[]⟩] w4.heap.size rfl)
          clear S4
          obtain ⟨g1, hg⟩ : ∃ g', g' = w4.heap.size := ⟨_, rfl⟩
          rw [← hg] at S5 ⊢
          clear hg
          generalize w4.alloc (.cells #[.int .i64 0, .int .i64 0, .string ⟨#[]⟩] 49) = w5 at S5 ⊢
          refine hK.out _ _ ⟨Bag.cs4 S5.out 0 rfl, Bag.cs2 S5.out 1 rfl, HKx.out _ S5.out.old⟩ (fun hS => ?_)
          clear hK K
          try simp only [zp0, zp1, zp2, zp3, zp4]
          refine Reg.one_op (i := 12) rfl (by kernel_rfl) (fun K hK => ?_)
          go_simp
          have S6 := Lib.hid (show Sl.Sep w _ [L4.boxR w.heap.size 31 #[.string name, .int .i64 ver, .slice (some sad) N sc, .slice ua M uc], L4.boxR (w.heap.size + 1) 46 #[.string u.f_Store, .string u.f_Field], L4.boxR g1 49 #[.int .i64 0, .int .i64 0, .string ⟨#[]⟩], L4.boxR w5.heap.size 49 #[.int .i64 0, .int .i64 0, .string ⟨#[]⟩]] from L4.push_box S5.out 49 #[.int .i64 0, .int .i64 0, .string ⟨#[]⟩] w5.heap.size rfl)
          clear S5
          obtain ⟨g2, hg⟩ : ∃ g', g' = w5.heap.size := ⟨_, rfl⟩
          rw [← hg] at S6 ⊢
          clear hg
          generalize w5.alloc (.cells #[.int .i64 0, .int .i64 0, .string ⟨#[]⟩] 49) = w6 at S6 ⊢
          refine hK.out _ _ ⟨Bag.cs4 S6.out 0 rfl, Bag.cs2 S6.out 1 rfl, HKx.out _ S6.out.old⟩ (fun hS => ?_)
          clear hK K
          try simp only [zp0, zp1, zp2, zp3, zp4]
          refine Reg.one_op (i := 14) rfl (by kernel_rfl) (fun K hK => ?_)
          have hh := Bag.cs3 S6.out 3 rfl
          have f0 := hh.1; have f1 := hh.2.1; have f2 := hh.2.2; clear hh
          have hh := Bag.fs3 S6.out 3 rfl
          have z0 := hh.1; have z1 := hh.2.1; have z2 := hh.2.2; clear hh
          go_simp
          clear f0 f1 f2 z0 z1 z2
          have S7 := Lib.hid (show Sl.Sep w _ [L4.boxR w.heap.size 31 #[.string name, .int .i64 ver, .slice (some sad) N sc, .slice ua M uc], L4.boxR (w.heap.size + 1) 46 #[.string u.f_Store, .string u.f_Field], L4.boxR g1 49 #[.int .i64 0, .int .i64 0, .string ⟨#[]⟩], L4.boxR g2 49 #[.int .i64 KA.kind, .int .i64 KA.n, .string KA.text]] from L5.put_box5 (L5.put_box5 (L5.put_box5 (S6.out) 3 rfl 0 (.int .i64 KA.kind)) 3 rfl 1 (.int .i64 KA.n)) 3 rfl 2 (.string KA.text))
          clear S6
          refine hK.out _ _ ⟨Bag.cs4 S7.out 0 rfl, Bag.cs2 S7.out 1 rfl, HKx.out _ S7.out.old⟩ (fun hS => ?_)
          clear hK K
          try simp only [zp0, zp1, zp2, zp3, zp4]
          refine Reg.one_op (i := 15) rfl (by kernel_rfl) (fun K hK => ?_)
          have hh := Bag.cs3 S7.out 2 rfl
          have f0 := hh.1; have f1 := hh.2.1; have f2 := hh.2.2; clear hh
          have hh := Bag.fs3 S7.out 2 rfl
          have z0 := hh.1; have z1 := hh.2.1; have z2 := hh.2.2; clear hh
          go_simp
          clear f0 f1 f2 z0 z1 z2
          have S8 := Lib.hid (show Sl.Sep w _ [L4.boxR w.heap.size 31 #[.string name, .int .i64 ver, .slice (some sad) N sc, .slice ua M uc], L4.boxR (w.heap.size + 1) 46 #[.string u.f_Store, .string u.f_Field], L4.boxR g1 49 #[.int .i64 KZ.kind, .int .i64 KZ.n, .string KZ.text], L4.boxR g2 49 #[.int .i64 KA.kind, .int .i64 KA.n, .string KA.text]] from L5.put_box5 (L5.put_box5 (L5.put_box5 (S7.out) 2 rfl 0 (.int .i64 KZ.kind)) 2 rfl 1 (.int .i64 KZ.n)) 2 rfl 2 (.string KZ.text))
          clear S7
          refine hK.out _ _ ⟨Bag.cs4 S8.out 0 rfl, Bag.cs2 S8.out 1 rfl, HKx.out _ S8.out.old⟩ (fun hS => ?_)
          clear hK K
          try simp only [zp0, zp1, zp2, zp3, zp4]
          refine tk 16 rfl ?_
          try simp only [zp0, zp1, zp2, zp3, zp4]
          refine wpAnyH_done (by kernel_rfl) ?_ _
          have hh := Bag.cs4 S8.out 0 rfl
          have f0 := hh.1; have f1 := hh.2.1; have f2 := hh.2.2.1; have f3 := hh.2.2.2; clear hh
          have hh := Bag.cs2 S8.out 1 rfl
          have f4 := hh.1; have f5 := hh.2; clear hh
          have hh := Bag.cs3 S8.out 2 rfl
          have f6 := hh.1; have f7 := hh.2.1; have f8 := hh.2.2; clear hh
          have hh := Bag.cs3 S8.out 3 rfl
          have f9 := hh.1; have f10 := hh.2.1; have f11 := hh.2.2; clear hh
          have hh := HKx.out _ S8.out.old
          have f12 := hh.1; have f13 := hh.2.1; have f14 := hh.2.2; clear hh
          clear f0 f1 f2 f3 f4 f5 f6 f7 f8 f9 f10 f11 f12 f13 f14
          have S9 := Lib.hid (show Sl.Sep w _ [L4.boxR w.heap.size 31 #[.string name, .int .i64 ver, .slice (some sad) N sc, .slice ua M uc], L4.boxR (w.heap.size + 1) 46 #[.string u.f_Store, .string u.f_Field]] from Bag.take S8.out [0, 1] (by rfl) (by decide))
          clear S8
          go_wp2_with fail
          go_ret
          exact ⟨by rw [HKP.out] <;> rfl, S9.out.old⟩
        exact AllReadyH.nil
      refine Reg.cons_op (i := 12) rfl (fun K hK => ?_) ?_
      · skip
        go_simp
        have S4 := Lib.hid (show Sl.Sep w _ [L4.boxR w.heap.size 31 #[.string name, .int .i64 ver, .slice (some sad) N sc, .slice ua M uc], L4.boxR (w.heap.size + 1) 46 #[.string u.f_Store, .string u.f_Field], L4.boxR w3.heap.size 49 #[.int .i64 0, .int .i64 0, .string ⟨#[]⟩]] from L4.push_box S3.out 49 #[.int .i64 0, .int .i64 0, .string ⟨#[]⟩] w3.heap.size rfl)
        clear S3
        obtain ⟨g1, hg⟩ : ∃ g', g' = w3.heap.size := ⟨_, rfl⟩
        rw [← hg] at S4 ⊢
        clear hg
        generalize w3.alloc (.cells #[.int .i64 0, .int .i64 0, .string ⟨#[]⟩] 49) = w4 at S4 ⊢
        refine hK.out _ _ ⟨Bag.cs4 S4.out 0 rfl, Bag.cs2 S4.out 1 rfl, HKx.out _ S4.out.old⟩ (fun hS => ?_)
        clear hK K
        try simp only [zp0, zp1, zp2, zp3, zp4]
        refine wpAnyH_ready (rs := [7, 13]) (by kernel_rfl) (by simp) ?_
        refine Reg.cons_op (i := 7) rfl (fun K hK => ?_) ?_
        · skip
          go_simp
          go_at_call 72
          refine (HUF.out _ S4.out.old).mono ?_
          rintro e w5 ⟨rfl, hb⟩
          have S5 := Lib.hid (S4.out.keep hb)
          clear S4
          clear hb
          go_wp2_with fail
          refine hK.out _ _ ⟨Bag.cs4 S5.out 0 rfl, Bag.cs2 S5.out 1 rfl, HKx.out _ S5.out.old⟩ (fun hS => ?_)
          clear hK K
          try simp only [zp0, zp1, zp2, zp3, zp4]
          refine tk 8 rfl ?_
          try simp only [zp0, zp1, zp2, zp3, zp4]
          refine tk 9 rfl ?_
          try simp only [zp0, zp1, zp2, zp3, zp4]
          refine tk 10 rfl ?_
          try simp only [zp0, zp1, zp2, zp3, zp4]
          refine tk 11 rfl ?_
          try simp only [zp0, zp1, zp2, zp3, zp4]
          refine Reg.one_op (i := 13) rfl (by kernel_rfl) (fun K hK => ?_)
          go_simp
          have S6 := Lib.hid (show Sl.Sep w _ [L4.boxR w.heap.size 31 #[.string name, .int .i64 ver, .slice (some sad) N sc, .slice ua M uc], L4.boxR (w.heap.size + 1) 46 #[.string u.f_Store, .string u.f_Field], L4.boxR g1 49 #[.int .i64 0, .int .i64 0, .string ⟨#[]⟩], L4.boxR w5.heap.size 49 #[.int .i64 0, .int .i64 0, .string ⟨#[]⟩]] from L4.push_box S5.out 49 #[.int .i64 0, .int .i64 0, .string ⟨#[]⟩] w5.heap.size rfl)
          clear S5
          obtain ⟨g2, hg⟩ : ∃ g', g' = w5.heap.size := ⟨_, rfl⟩
          rw [← hg] at S6 ⊢
          clear hg
          generalize w5.alloc (.cells #[.int .i64 0, .int .i64 0, .string ⟨#[]⟩] 49) = w6 at S6 ⊢
          refine hK.out _ _ ⟨Bag.cs4 S6.out 0 rfl, Bag.cs2 S6.out 1 rfl, HKx.out _ S6.out.old⟩ (fun hS => ?_)
          clear hK K
          try simp only [zp0, zp1, zp2, zp3, zp4]
          refine Reg.one_op (i := 14) rfl (by kernel_rfl) (fun K hK => ?_)
          have hh := Bag.cs3 S6.out 2 rfl
          have f0 := hh.1; have f1 := hh.2.1; have f2 := hh.2.2; clear hh
          have hh := Bag.fs3 S6.out 2 rfl
          have z0 := hh.1; have z1 := hh.2.1; have z2 := hh.2.2; clear hh
          go_simp
          clear f0 f1 f2 z0 z1 z2
          have S7 := Lib.hid (show Sl.Sep w _ [L4.boxR w.heap.size 31 #[.string name, .int .i64 ver, .slice (some sad) N sc, .slice ua M uc], L4.boxR (w.heap.size + 1) 46 #[.string u.f_Store, .string u.f_Field], L4.boxR g1 49 #[.int .i64 KA.kind, .int .i64 KA.n, .string KA.text], L4.boxR g2 49 #[.int .i64 0, .int .i64 0, .string ⟨#[]⟩]] from L5.put_box5 (L5.put_box5 (L5.put_box5 (S6.out) 2 rfl 0 (.int .i64 KA.kind)) 2 rfl 1 (.int .i64 KA.n)) 2 rfl 2 (.string KA.text))
          clear S6
          refine hK.out _ _ ⟨Bag.cs4 S7.out 0 rfl, Bag.cs2 S7.out 1 rfl, HKx.out _ S7.out.old⟩ (fun hS => ?_)
          clear hK K
          try simp only [zp0, zp1, zp2, zp3, zp4]
          refine Reg.one_op (i := 15) rfl (by kernel_rfl) (fun K hK => ?_)
          have hh := Bag.cs3 S7.out 3 rfl
          have f0 := hh.1; have f1 := hh.2.1; have f2 := hh.2.2; clear hh
          have hh := Bag.fs3 S7.out 3 rfl
          have z0 := hh.1; have z1 := hh.2.1; have z2 := hh.2.2; clear hh
          go_simp
          clear f0 f1 f2 z0 z1 z2
          have S8 := Lib.hid (show Sl.Sep w _ [L4.boxR w.heap.size 31 #[.string name, .int .i64 ver, .slice (some sad) N sc, .slice ua M uc], L4.boxR (w.heap.size + 1) 46 #[.string u.f_Store, .string u.f_Field], L4.boxR g1 49 #[.int .i64 KA.kind, .int .i64 KA.n, .string KA.text], L4.boxR g2 49 #[.int .i64 KZ.kind, .int .i64 KZ.n, .string KZ.text]] from L5.put_box5 (L5.put_box5 (L5.put_box5 (S7.out) 3 rfl 0 (.int .i64 KZ.kind)) 3 rfl 1 (.int .i64 KZ.n)) 3 rfl 2 (.string KZ.text))
          clear S7
          refine hK.out _ _ ⟨Bag.cs4 S8.out 0 rfl, Bag.cs2 S8.out 1 rfl, HKx.out _ S8.out.old⟩ (fun hS => ?_)
          clear hK K
          try simp only [zp0, zp1, zp2, zp3, zp4]
          refine tk 16 rfl ?_
          try simp only [zp0, zp1, zp2, zp3, zp4]
          refine wpAnyH_done (by kernel_rfl) ?_ _
          have hh := Bag.cs4 S8.out 0 rfl
          have f0 := hh.1; have f1 := hh.2.1; have f2 := hh.2.2.1; have f3 := hh.2.2.2; clear hh
          have hh := Bag.cs2 S8.out 1 rfl
          have f4 := hh.1; have f5 := hh.2; clear hh
          have hh := Bag.cs3 S8.out 2 rfl
          have f6 := hh.1; have f7 := hh.2.1; have f8 := hh.2.2; clear hh
          have hh := Bag.cs3 S8.out 3 rfl
          have f9 := hh.1; have f10 := hh.2.1; have f11 := hh.2.2; clear hh
          have hh := HKx.out _ S8.out.old
          have f12 := hh.1; have f13 := hh.2.1; have f14 := hh.2.2; clear hh
          clear f0 f1 f2 f3 f4 f5 f6 f7 f8 f9 f10 f11 f12 f13 f14
          have S9 := Lib.hid (show Sl.Sep w _ [L4.boxR w.heap.size 31 #[.string name, .int .i64 ver, .slice (some sad) N sc, .slice ua M uc], L4.boxR (w.heap.size + 1) 46 #[.string u.f_Store, .string u.f_Field]] from Bag.take S8.out [0, 1] (by rfl) (by decide))
          clear S8
          go_wp2_with fail
          go_ret
          exact ⟨by rw [HKP.out] <;> rfl, S9.out.old⟩
        refine Reg.cons_op (i := 13) rfl (fun K hK => ?_) ?_
        · skip
          go_simp
          have S5 := Lib.hid (show Sl.Sep w _ [L4.boxR w.heap.size 31 #[.string name, .int .i64 ver, .slice (some sad) N sc, .slice ua M uc], L4.boxR (w.heap.size + 1) 46 #[.string u.f_Store, .string u.f_Field], L4.boxR g1 49 #[.int .i64 0, .int .i64 0, .string ⟨#[]⟩], L4.boxR w4.heap.size 49 #[.int .i64 0, .int .i64 0, .string ⟨#[]⟩]] from L4.push_box S4.out 49 #[.int .i64 0, .int .i64 0, .string ⟨#[]⟩] w4.heap.size rfl)
          clear S4
          obtain ⟨g2, hg⟩ : ∃ g', g' = w4.heap.size := ⟨_, rfl⟩
          rw [← hg] at S5 ⊢
          clear hg
          generalize w4.alloc (.cells #[.int .i64 0, .int .i64 0, .string ⟨#[]⟩] 49) = w5 at S5 ⊢
          refine hK.out _ _ ⟨Bag.cs4 S5.out 0 rfl, Bag.cs2 S5.out 1 rfl, HKx.out _ S5.out.old⟩ (fun hS => ?_)
          clear hK K
          try simp only [zp0, zp1, zp2, zp3, zp4]
          refine Reg.one_op (i := 7) rfl (by kernel_rfl) (fun K hK => ?_)
          go_simp
          go_at_call 72
          refine (HUF.out _ S5.out.old).mono ?_
          rintro e w6 ⟨rfl, hb⟩
          have S6 := Lib.hid (S5.out.keep hb)
          clear S5
          clear hb
          go_wp2_with fail
          refine hK.out _ _ ⟨Bag.cs4 S6.out 0 rfl, Bag.cs2 S6.out 1 rfl, HKx.out _ S6.out.old⟩ (fun hS => ?_)
          clear hK K
          try simp only [zp0, zp1, zp2, zp3, zp4]
          refine tk 8 rfl ?_
          try simp only [zp0, zp1, zp2, zp3, zp4]
          refine tk 9 rfl ?_
          try simp only [zp0, zp1, zp2, zp3, zp4]
          refine tk 10 rfl ?_
          try simp only [zp0, zp1, zp2, zp3, zp4]
          refine tk 11 rfl ?_
          try simp only [zp0, zp1, zp2, zp3, zp4]
          refine Reg.one_op (i := 14) rfl (by kernel_rfl) (fun K hK => ?_)
          have hh := Bag.cs3 S6.out 2 rfl
          have f0 := hh.1; have f1 := hh.2.1; have f2 := hh.2.2; clear hh
          have hh := Bag.fs3 S6.out 2 rfl
          have z0 := hh.1; have z1 := hh.2.1; have z2 := hh.2.2; clear hh
          go_simp
          clear f0 f1 f2 z0 z1 z2
          have S7 := Lib.hid (show Sl.Sep w _ [L4.boxR w.heap.size 31 #[.string name, .int .i64 ver, .slice (some sad) N sc, .slice ua M uc], L4.boxR (w.heap.size + 1) 46 #[.string u.f_Store, .string u.f_Field], L4.boxR g1 49 #[.int .i64 KA.kind, .int .i64 KA.n, .string KA.text], L4.boxR g2 49 #[.int .i64 0, .int .i64 0, .string ⟨#[]⟩]] from L5.put_box5 (L5.put_box5 (L5.put_box5 (S6.out) 2 rfl 0 (.int .i64 KA.kind)) 2 rfl 1 (.int .i64 KA.n)) 2 rfl 2 (.string KA.text))
          clear S6
          refine hK.out _ _ ⟨Bag.cs4 S7.out 0 rfl, Bag.cs2 S7.out 1 rfl, HKx.out _ S7.out.old⟩ (fun hS => ?_)
          clear hK K
          try simp only [zp0, zp1, zp2, zp3, zp4]
          refine Reg.one_op (i := 15) rfl (by kernel_rfl) (fun K hK => ?_)
          have hh := Bag.cs3 S7.out 3 rfl
          have f0 := hh.1; have f1 := hh.2.1; have f2 := hh.2.2; clear hh
          have hh := Bag.fs3 S7.out 3 rfl
          have z0 := hh.1; have z1 := hh.2.1; have z2 := hh.2.2; clear hh
          go_simp
          clear f0 f1 f2 z0 z1 z2
          have S8 := Lib.hid (show Sl.Sep w _ [L4.boxR w.heap.size 31 #[.string name, .int .i64 ver, .slice (some sad) N sc, .slice ua M uc], L4.boxR (w.heap.size + 1) 46 #[.string u.f_Store, .string u.f_Field], L4.boxR g1 49 #[.int .i64 KA.kind, .int .i64 KA.n, .string KA.text], L4.boxR g2 49 #[.int .i64 KZ.kind, .int .i64 KZ.n, .string KZ.text]] from L5.put_box5 (L5.put_box5 (L5.put_box5 (S7.out) 3 rfl 0 (.int .i64 KZ.kind)) 3 rfl 1 (.int .i64 KZ.n)) 3 rfl 2 (.string KZ.text))
          clear S7
          refine hK.out _ _ ⟨Bag.cs4 S8.out 0 rfl, Bag.cs2 S8.out 1 rfl, HKx.out _ S8.out.old⟩ (fun hS => ?_)
          clear hK K
          try simp only [zp0, zp1, zp2, zp3, zp4]
          refine tk 16 rfl ?_
          try simp only [zp0, zp1, zp2, zp3, zp4]
          refine wpAnyH_done (by kernel_rfl) ?_ _
          have hh := Bag.cs4 S8.out 0 rfl
          have f0 := hh.1; have f1 := hh.2.1; have f2 := hh.2.2.1; have f3 := hh.2.2.2; clear hh
          have hh := Bag.cs2 S8.out 1 rfl
          have f4 := hh.1; have f5 := hh.2; clear hh
          have hh := Bag.cs3 S8.out 2 rfl
          have f6 := hh.1; have f7 := hh.2.1; have f8 := hh.2.2; clear hh
          have hh := Bag.cs3 S8.out 3 rfl
          have f9 := hh.1; have f10 := hh.2.1; have f11 := hh.2.2; clear hh
          have hh := HKx.out _ S8.out.old
          have f12 := hh.1; have f13 := hh.2.1; have f14 := hh.2.2; clear hh
          clear f0 f1 f2 f3 f4 f5 f6 f7 f8 f9 f10 f11 f12 f13 f14
          have S9 := Lib.hid (show Sl.Sep w _ [L4.boxR w.heap.size 31 #[.string name, .int .i64 ver, .slice (some sad) N sc, .slice ua M uc], L4.boxR (w.heap.size + 1) 46 #[.string u.f_Store, .string u.f_Field]] from Bag.take S8.out [0, 1] (by rfl) (by decide))
          clear S8
          go_wp2_with fail
          go_ret
          exact ⟨by rw [HKP.out] <;> rfl, S9.out.old⟩
        exact AllReadyH.nil
      refine Reg.cons_op (i := 13) rfl (fun K hK => ?_) ?_
      · skip
        go_simp
        have S4 := Lib.hid (show Sl.Sep w _ [L4.boxR w.heap.size 31 #[.string name, .int .i64 ver, .slice (some sad) N sc, .slice ua M uc], L4.boxR (w.heap.size + 1) 46 #[.string u.f_Store, .string u.f_Field], L4.boxR w3.heap.size 49 #[.int .i64 0, .int .i64 0, .string ⟨#[]⟩]] from L4.push_box S3.out 49 #[.int .i64 0, .int .i64 0, .string ⟨#[]⟩] w3.heap.size rfl)
        clear S3
        obtain ⟨g1, hg⟩ : ∃ g', g' = w3.heap.size := ⟨_, rfl⟩
        rw [← hg] at S4 ⊢
        clear hg
        generalize w3.alloc (.cells #[.int .i64 0, .int .i64 0, .string ⟨#[]⟩] 49) = w4 at S4 ⊢
        refine hK.out _ _ ⟨Bag.cs4 S4.out 0 rfl, Bag.cs2 S4.out 1 rfl, HKx.out _ S4.out.old⟩ (fun hS => ?_)
        clear hK K
        try simp only [zp0, zp1, zp2, zp3, zp4]
        refine wpAnyH_ready (rs := [7, 12]) (by kernel_rfl) (by simp) ?_
        refine Reg.cons_op (i := 7) rfl (fun K hK => ?_) ?_
        · skip
          go_simp
          go_at_call 72
          refine (HUF.out _ S4.out.old).mono ?_
          rintro e w5 ⟨rfl, hb⟩
          have S5 := Lib.hid (S4.out.keep hb)
          clear S4
          clear hb
          go_wp2_with fail
          refine hK.out _ _ ⟨Bag.cs4 S5.out 0 rfl, Bag.cs2 S5.out 1 rfl, HKx.out _ S5.out.old⟩ (fun hS => ?_)
          clear hK K
          try simp only [zp0, zp1, zp2, zp3, zp4]
          refine tk 8 rfl ?_
          try simp only [zp0, zp1, zp2, zp3, zp4]
          refine tk 9 rfl ?_
          try simp only [zp0, zp1, zp2, zp3, zp4]
          refine tk 10 rfl ?_
          try simp only [zp0, zp1, zp2, zp3, zp4]
          refine tk 11 rfl ?_
          try simp only [zp0, zp1, zp2, zp3, zp4]
          refine Reg.one_op (i := 12) rfl (by kernel_rfl) (fun K hK => ?_)
          go_simp
          have S6 := Lib.hid (show Sl.Sep w _ [L4.boxR w.heap.size 31 #[.string name, .int .i64 ver, .slice (some sad) N sc, .slice ua M uc], L4.boxR (w.heap.size + 1) 46 #[.string u.f_Store, .string u.f_Field], L4.boxR g1 49 #[.int .i64 0, .int .i64 0, .string ⟨#[]⟩], L4.boxR w5.heap.size 49 #[.int .i64 0, .int .i64 0, .string ⟨#[]⟩]] from L4.push_box S5.out 49 #[.int .i64 0, .int .i64 0, .string ⟨#[]⟩] w5.heap.size rfl)
          clear S5
          obtain ⟨g2, hg⟩ : ∃ g', g' = w5.heap.size := ⟨_, rfl⟩
          rw [← hg] at S6 ⊢
          clear hg
          generalize w5.alloc (.cells #[.int .i64 0, .int .i64 0, .string ⟨#[]⟩] 49) = w6 at S6 ⊢
          refine hK.out _ _ ⟨Bag.cs4 S6.out 0 rfl, Bag.cs2 S6.out 1 rfl, HKx.out _ S6.out.old⟩ (fun hS => ?_)
          clear hK K
          try simp only [zp0, zp1, zp2, zp3, zp4]
          refine Reg.one_op (i := 14) rfl (by kernel_rfl) (fun K hK => ?_)
          have hh := Bag.cs3 S6.out 3 rfl
          have f0 := hh.1; have f1 := hh.2.1; have f2 := hh.2.2; clear hh
          have hh := Bag.fs3 S6.out 3 rfl
          have z0 := hh.1; have z1 := hh.2.1; have z2 := hh.2.2; clear hh
          go_simp
          clear f0 f1 f2 z0 z1 z2
          have S7 := Lib.hid (show Sl.Sep w _ [L4.boxR w.heap.size 31 #[.string name, .int .i64 ver, .slice (some sad) N sc, .slice ua M uc], L4.boxR (w.heap.size + 1) 46 #[.string u.f_Store, .string u.f_Field], L4.boxR g1 49 #[.int .i64 0, .int .i64 0, .string ⟨#[]⟩], L4.boxR g2 49 #[.int .i64 KA.kind, .int .i64 KA.n, .string KA.text]] from L5.put_box5 (L5.put_box5 (L5.put_box5 (S6.out) 3 rfl 0 (.int .i64 KA.kind)) 3 rfl 1 (.int .i64 KA.n)) 3 rfl 2 (.string KA.text))
          clear S6
          refine hK.out _ _ ⟨Bag.cs4 S7.out 0 rfl, Bag.cs2 S7.out 1 rfl, HKx.out _ S7.out.old⟩ (fun hS => ?_)
          clear hK K
          try simp only [zp0, zp1, zp2, zp3, zp4]
          refine Reg.one_op (i := 15) rfl (by kernel_rfl) (fun K hK => ?_)
          have hh := Bag.cs3 S7.out 2 rfl
          have f0 := hh.1; have f1 := hh.2.1; have f2 := hh.2.2; clear hh
          have hh := Bag.fs3 S7.out 2 rfl
          have z0 := hh.1; have z1 := hh.2.1; have z2 := hh.2.2; clear hh
          go_simp
          clear f0 f1 f2 z0 z1 z2
          have S8 := Lib.hid (show Sl.Sep w _ [L4.boxR w.heap.size 31 #[.string name, .int .i64 ver, .slice (some sad) N sc, .slice ua M uc], L4.boxR (w.heap.size + 1) 46 #[.string u.f_Store, .string u.f_Field], L4.boxR g1 49 #[.int .i64 KZ.kind, .int .i64 KZ.n, .string KZ.text], L4.boxR g2 49 #[.int .i64 KA.kind, .int .i64 KA.n, .string KA.text]] from L5.put_box5 (L5.put_box5 (L5.put_box5 (S7.out) 2 rfl 0 (.int .i64 KZ.kind)) 2 rfl 1 (.int .i64 KZ.n)) 2 rfl 2 (.string KZ.text))
          clear S7
          refine hK.out _ _ ⟨Bag.cs4 S8.out 0 rfl, Bag.cs2 S8.out 1 rfl, HKx.out _ S8.out.old⟩ (fun hS => ?_)
          clear hK K
          try simp only [zp0, zp1, zp2, zp3, zp4]
          refine tk 16 rfl ?_
          try simp only [zp0, zp1, zp2, zp3, zp4]
          refine wpAnyH_done (by kernel_rfl) ?_ _
          have hh := Bag.cs4 S8.out 0 rfl
          have f0 := hh.1; have f1 := hh.2.1; have f2 := hh.2.2.1; have f3 := hh.2.2.2; clear hh
          have hh := Bag.cs2 S8.out 1 rfl
          have f4 := hh.1; have f5 := hh.2; clear hh
          have hh := Bag.cs3 S8.out 2 rfl
          have f6 := hh.1; have f7 := hh.2.1; have f8 := hh.2.2; clear hh
          have hh := Bag.cs3 S8.out 3 rfl
          have f9 := hh.1; have f10 := hh.2.1; have f11 := hh.2.2; clear hh
          have hh := HKx.out _ S8.out.old
          have f12 := hh.1; have f13 := hh.2.1; have f14 := hh.2.2; clear hh
          clear f0 f1 f2 f3 f4 f5 f6 f7 f8 f9 f10 f11 f12 f13 f14
          have S9 := Lib.hid (show Sl.Sep w _ [L4.boxR w.heap.size 31 #[.string name, .int .i64 ver, .slice (some sad) N sc, .slice ua M uc], L4.boxR (w.heap.size + 1) 46 #[.string u.f_Store, .string u.f_Field]] from Bag.take S8.out [0, 1] (by rfl) (by decide))
          clear S8
          go_wp2_with fail
          go_ret
          exact ⟨by rw [HKP.out] <;> rfl, S9.out.old⟩
        refine Reg.cons_op (i := 12) rfl (fun K hK => ?_) ?_
        · skip
          go_simp
          have S5 := Lib.hid (show Sl.Sep w _ [L4.boxR w.heap.size 31 #[.string name, .int .i64 ver, .slice (some sad) N sc, .slice ua M uc], L4.boxR (w.heap.size + 1) 46 #[.string u.f_Store, .string u.f_Field], L4.boxR g1 49 #[.int .i64 0, .int .i64 0, .string ⟨#[]⟩], L4.boxR w4.heap.size 49 #[.int .i64 0, .int .i64 0, .string ⟨#[]⟩]] from L4.push_box S4.out 49 #[.int .i64 0, .int .i64 0, .string ⟨#[]⟩] w4.heap.size rfl)
          clear S4
          obtain ⟨g2, hg⟩ : ∃ g', g' = w4.heap.size := ⟨_, rfl⟩
          rw [← hg] at S5 ⊢
          clear hg
          generalize w4.alloc (.cells #[.int .i64 0, .int .i64 0, .string ⟨#[]⟩] 49) = w5 at S5 ⊢
          refine hK.out _ _ ⟨Bag.cs4 S5.out 0 rfl, Bag.cs2 S5.out 1 rfl, HKx.out _ S5.out.old⟩ (fun hS => ?_)
          clear hK K
          try simp only [zp0, zp1, zp2, zp3, zp4]
          refine Reg.one_op (i := 7) rfl (by kernel_rfl) (fun K hK => ?_)
          go_simp
          go_at_call 72
          refine (HUF.out _ S5.out.old).mono ?_
          rintro e w6 ⟨rfl, hb⟩
          have S6 := Lib.hid (S5.out.keep hb)
          clear S5
          clear hb
          go_wp2_with fail
          refine hK.out _ _ ⟨Bag.cs4 S6.out 0 rfl, Bag.cs2 S6.out 1 rfl, HKx.out _ S6.out.old⟩ (fun hS => ?_)
          clear hK K
          try simp only [zp0, zp1, zp2, zp3, zp4]
          refine tk 8 rfl ?_
          try simp only [zp0, zp1, zp2, zp3, zp4]
          refine tk 9 rfl ?_
          try simp only [zp0, zp1, zp2, zp3, zp4]
          refine tk 10 rfl ?_
          try simp only [zp0, zp1, zp2, zp3, zp4]
          refine tk 11 rfl ?_
          try simp only [zp0, zp1, zp2, zp3, zp4]
          refine Reg.one_op (i := 14) rfl (by kernel_rfl) (fun K hK => ?_)
          have hh := Bag.cs3 S6.out 3 rfl
          have f0 := hh.1; have f1 := hh.2.1; have f2 := hh.2.2; clear hh
          have hh := Bag.fs3 S6.out 3 rfl
          have z0 := hh.1; have z1 := hh.2.1; have z2 := hh.2.2; clear hh
          go_simp
          clear f0 f1 f2 z0 z1 z2
          have S7 := Lib.hid (show Sl.Sep w _ [L4.boxR w.heap.size 31 #[.string name, .int .i64 ver, .slice (some sad) N sc, .slice ua M uc], L4.boxR (w.heap.size + 1) 46 #[.string u.f_Store, .string u.f_Field], L4.boxR g1 49 #[.int .i64 0, .int .i64 0, .string ⟨#[]⟩], L4.boxR g2 49 #[.int .i64 KA.kind, .int .i64 KA.n, .string KA.text]] from L5.put_box5 (L5.put_box5 (L5.put_box5 (S6.out) 3 rfl 0 (.int .i64 KA.kind)) 3 rfl 1 (.int .i64 KA.n)) 3 rfl 2 (.string KA.text))
          clear S6
          refine hK.out _ _ ⟨Bag.cs4 S7.out 0 rfl, Bag.cs2 S7.out 1 rfl, HKx.out _ S7.out.old⟩ (fun hS => ?_)
          clear hK K
          try simp only [zp0, zp1, zp2, zp3, zp4]
          refine Reg.one_op (i := 15) rfl (by kernel_rfl) (fun K hK => ?_)
          have hh := Bag.cs3 S7.out 2 rfl
          have f0 := hh.1; have f1 := hh.2.1; have f2 := hh.2.2; clear hh
          have hh := Bag.fs3 S7.out 2 rfl
          have z0 := hh.1; have z1 := hh.2.1; have z2 := hh.2.2; clear hh
          go_simp
          clear f0 f1 f2 z0 z1 z2
          have S8 := Lib.hid (show Sl.Sep w _ [L4.boxR w.heap.size 31 #[.string name, .int .i64 ver, .slice (some sad) N sc, .slice ua M uc], L4.boxR (w.heap.size + 1) 46 #[.string u.f_Store, .string u.f_Field], L4.boxR g1 49 #[.int .i64 KZ.kind, .int .i64 KZ.n, .string KZ.text], L4.boxR g2 49 #[.int .i64 KA.kind, .int .i64 KA.n, .string KA.text]] from L5.put_box5 (L5.put_box5 (L5.put_box5 (S7.out) 2 rfl 0 (.int .i64 KZ.kind)) 2 rfl 1 (.int .i64 KZ.n)) 2 rfl 2 (.string KZ.text))
          clear S7
          refine hK.out _ _ ⟨Bag.cs4 S8.out 0 rfl, Bag.cs2 S8.out 1 rfl, HKx.out _ S8.out.old⟩ (fun hS => ?_)
          clear hK K
          try simp only [zp0, zp1, zp2, zp3, zp4]
          refine tk 16 rfl ?_
          try simp only [zp0, zp1, zp2, zp3, zp4]
          refine wpAnyH_done (by kernel_rfl) ?_ _
          have hh := Bag.cs4 S8.out 0 rfl
          have f0 := hh.1; have f1 := hh.2.1; have f2 := hh.2.2.1; have f3 := hh.2.2.2; clear hh
          have hh := Bag.cs2 S8.out 1 rfl
          have f4 := hh.1; have f5 := hh.2; clear hh
          have hh := Bag.cs3 S8.out 2 rfl
          have f6 := hh.1; have f7 := hh.2.1; have f8 := hh.2.2; clear hh
          have hh := Bag.cs3 S8.out 3 rfl
          have f9 := hh.1; have f10 := hh.2.1; have f11 := hh.2.2; clear hh
          have hh := HKx.out _ S8.out.old
          have f12 := hh.1; have f13 := hh.2.1; have f14 := hh.2.2; clear hh
          clear f0 f1 f2 f3 f4 f5 f6 f7 f8 f9 f10 f11 f12 f13 f14
          have S9 := Lib.hid (show Sl.Sep w _ [L4.boxR w.heap.size 31 #[.string name, .int .i64 ver, .slice (some sad) N sc, .slice ua M uc], L4.boxR (w.heap.size + 1) 46 #[.string u.f_Store, .string u.f_Field]] from Bag.take S8.out [0, 1] (by rfl) (by decide))
          clear S8
          go_wp2_with fail
          go_ret
          exact ⟨by rw [HKP.out] <;> rfl, S9.out.old⟩
        exact AllReadyH.nil
      exact AllReadyH.nil
set_option maxHeartbeats 8000000 in
theorem hasValidStores_any (z : Y_Database) (hf : FitD (co_Database z)) (w : World) (hr : RowsRd w w.heap.size (rw_Database z)) :
    Calls Try.prog 28 #[vv_Database z] w fun e w' => e = .returned (.bool (decide ((co_Database z).f_Stores.length ≤ 4) && allTo (okSx (co_Database z).f_Stores) (co_Database z).f_Stores.length)) ∧ Below w.heap.size w w' := by
  have HR : Hid (∀ w' (h : Below w.heap.size w w'), Reads w' w.heap.size z.f_Stores_a (z.f_Stores.flatMap cl_Store)) := Lib.hid (fun w' h => (rdS hr).below h)
  have HX : Hid (∀ w' (h : Below w.heap.size w w'), RowsRd w' w'.heap.size (rws_Store z.f_Stores)) := Lib.hid (fun w' h => ((rdX hr).below h).more h.size)
  have HU : Hid (∀ w' (h : Below w.heap.size w w'), Reads w' w.heap.size z.f_Unique_a (z.f_Unique.flatMap cl_IndexDef)) := Lib.hid (fun w' h => (rdU hr).below h)
  have HFD := Lib.hid hf
  have HFDl : z.f_Stores.length ≤ 1048576 := by have h := hf.len; rwa [co_len] at h
  have HFDm : z.f_Unique.length ≤ 1048576 := hf.many
  clear hf hr
  obtain ⟨name, ver, sa, sc, ss, ua, uc, us⟩ := z
  dsimp only [co_Database] at HR HX HU HFD HFDl HFDm
  try unfold vv_Database
  try unfold co_Database
  try dsimp only
  try rw [show coS_IndexDef us = us from rfl]
  rw [show coS_IndexDef us = us from rfl] at HFD
  obtain ⟨N, hN⟩ : ∃ n, n = ss.length := ⟨_, rfl⟩
  obtain ⟨M, hM⟩ : ∃ n, n = us.length := ⟨_, rfl⟩
  rw [← hN] at HFDl ⊢
  rw [← hM] at HFDm ⊢
  have HFDl' : (N : Int) ≤ 1048576 := by omega
  have HFDm' : (M : Int) ≤ 1048576 := by omega
  have HN := Lib.hid hN
  have HM := Lib.hid hM
  clear hN hM
  have HSL := Lib.hid (show (coS_Store ss).length = N by rw [coS_len, HN.out])
  rw [HSL.out]
  obtain ⟨B, hB⟩ : ∃ b, allTo (okSx (coS_Store ss)) N = b := ⟨_, rfl⟩
  have HB := Lib.hid hB
  rw [hB]
  clear hB
  have S1 := Lib.hid (show Sl.Sep w (w.alloc (.cells #[.string name, .int .i64 ver, .slice sa N sc, .slice ua M uc] 31)) [L4.boxR w.heap.size 31 #[.string name, .int .i64 ver, .slice sa N sc, .slice ua M uc]] from L4.push_box (Sl.Sep.start w) 31 #[.string name, .int .i64 ver, .slice sa N sc, .slice ua M uc] (w.heap.size) (by simp))
  obtain ⟨wa, hwa⟩ : ∃ w_, w_ = (w.alloc (.cells #[.string name, .int .i64 ver, .slice sa N sc, .slice ua M uc] 31)) := ⟨_, rfl⟩
  rw [← hwa] at S1
  go_enter Try.func28, Try.ntmps28
  go_upto_region 1 with fail
  rw [← hwa]
  clear hwa
  have hh := Bag.cs4 S1.out 0 rfl
  have f0 := hh.1; have f1 := hh.2.1; have f2 := hh.2.2.1; have f3 := hh.2.2.2; clear hh
  by_cases h4 : N ≤ 4
  rotate_left
  · have h4i : (4 : Int) < (N : Int) := by omega
    have hd := decide_eq_false h4
    go_wp2_with fail
    go_ret
    exact ⟨by rw [hd] <;> rfl, S1.out.old⟩
  have h4i : ¬ (4 : Int) < (N : Int) := by omega
  have HD := Lib.hid (decide_eq_true h4)
  clear h4
  go_wp2_with fail
  clear f0 f1 f2 f3
  go_loopw [12] (fun i wr => ∃ k : Nat, k ≤ N ∧ i = .int .i64 k ∧ Hid ((∀ j, j < k → okSx (coS_Store ss) j = true) ∧ Sl.Sep w wr [L4.boxR w.heap.size 31 #[.string name, .int .i64 ver, .slice sa N sc, .slice ua M uc]])) (fun i _ => N - (intOf i).toNat)
  case atStart => exact ⟨0, Nat.zero_le _, rfl, And.intro (fun j h => absurd h (by omega)) S1.out⟩
  case round =>
    obtain ⟨k, hk, rfl, hrel⟩ := hrel
    have HA := Lib.hid hrel.out.1
    have S2 := Lib.hid hrel.out.2
    clear hrel S1
    by_cases hlt : (k : Int) < (N : Int)
    · skip
      have hkl : k < ss.length := by have := HN.out; omega
      obtain ⟨x, hx⟩ : ∃ x, ss[k]? = some x := ⟨_, List.getElem?_eq_getElem hkl⟩
      obtain ⟨sad, e'⟩ := el_some cl_Store_len (by decide) (HR.out _ S2.out.old) hkl
      subst e'
      have HKx := Lib.hid (fun w' (h : Below w.heap.size w w') => el3 cl_Store_len (HR.out _ h) hx rfl)
      have HRx := Lib.hid (fun w' (h : Below w.heap.size w w') => rd_store (HX.out w' h) hx)
      have HFx := Lib.hid (fit_store HFD.out.stores hx)
      have HCx := Lib.hid (coS_at hx)
      clear hx
      obtain ⟨bk, hbk⟩ : ∃ b, isS x.con = b := ⟨_, rfl⟩
      have HIK := fun w' (h : Below w.heap.size w w') => isStore_any x HFx.out w' (HRx.out w' h)
      rw [hbk] at HIK
      dsimp only [LS.v, LS.cells] at HIK
      replace HIK := Lib.hid HIK
      have HBK := Lib.hid hbk
      clear hbk
      have hh := Bag.cs4 S2.out 0 rfl
      have f0 := hh.1; have f1 := hh.2.1; have f2 := hh.2.2.1; have f3 := hh.2.2.2; clear hh
      have hh := HKx.out _ S2.out.old
      have f4 := hh.1; have f5 := hh.2.1; have f6 := hh.2.2; clear hh
      go_upto_region 6 with fail
      clear f0 f1 f2 f3 f4 f5 f6
      have S3 := Lib.hid (show Sl.Sep w _ [L4.boxR w.heap.size 31 #[.string name, .int .i64 ver, .slice (some sad) N sc, .slice ua M uc], L4.boxR wr.heap.size 44 #[.string x.name, .slice x.a x.xs.length x.c, .int .i64 x.auto]] from L4.push_box S2.out 44 #[.string x.name, .slice x.a x.xs.length x.c, .int .i64 x.auto] wr.heap.size rfl)
      clear S2
      obtain ⟨g1, hg⟩ : ∃ g', g' = wr.heap.size := ⟨_, rfl⟩
      rw [← hg] at S3 ⊢
      clear hg
      generalize wr.alloc (.cells #[.string x.name, .slice x.a x.xs.length x.c, .int .i64 x.auto] 44) = w1 at S3 ⊢
      have hh := Bag.cs4 S3.out 0 rfl
      have f0 := hh.1; have f1 := hh.2.1; have f2 := hh.2.2.1; have f3 := hh.2.2.2; clear hh
      have hh := Bag.cs3 S3.out 1 rfl
      have f4 := hh.1; have f5 := hh.2.1; have f6 := hh.2.2; clear hh
      have hh := HKx.out _ S3.out.old
      have f7 := hh.1; have f8 := hh.2.1; have f9 := hh.2.2; clear hh
      go_wp2_with fail
      go_at_call 50
      refine (HIK.out _ S3.out.old).mono ?_
      rintro e w2 ⟨rfl, hb⟩
      clear f0 f1 f2 f3 f4 f5 f6 f7 f8 f9
      have S4 := Lib.hid (S3.out.keep hb)
      clear S3
      clear hb
      have hh := Bag.cs4 S4.out 0 rfl
      have f0 := hh.1; have f1 := hh.2.1; have f2 := hh.2.2.1; have f3 := hh.2.2.2; clear hh
      have hh := Bag.cs3 S4.out 1 rfl
      have f4 := hh.1; have f5 := hh.2.1; have f6 := hh.2.2; clear hh
      have hh := HKx.out _ S4.out.old
      have f7 := hh.1; have f8 := hh.2.1; have f9 := hh.2.2; clear hh
      cases bk with
      | false =>
        have HNO := Lib.hid (show B = false from by rw [← HB.out]; exact allTo_no k (by omega) (by rw [okSx_at HCx.out, HBK.out]; rfl))
        go_wp2_with fail
        go_ret
        exact ⟨by rw [HD.out, HNO.out] <;> rfl, S4.out.old⟩
      | true =>
        rcases Nat.eq_zero_or_pos k with hk0 | hk0
        · have hk1 : (0 < k) = False := by simp; omega
          have HZ := Lib.hid hk0
          clear hk0
          go_upto_region 8 with fail
          clear f0 f1 f2 f3 f4 f5 f6 f7 f8 f9
          refine wp_region_held_drew (S := (fun w' => (World.cell? w' ⟨w.heap.size, 0, none⟩ = some (.string name) ∧ World.cell? w' ⟨w.heap.size, 1, none⟩ = some (.int .i64 ver) ∧ World.cell? w' ⟨w.heap.size, 2, none⟩ = some (.slice (some sad) N sc) ∧ World.cell? w' ⟨w.heap.size, 3, none⟩ = some (.slice ua M uc)) ∧ (World.cell? w' ⟨g1, 0, none⟩ = some (.string x.name) ∧ World.cell? w' ⟨g1, 1, none⟩ = some (.slice x.a x.xs.length x.c) ∧ World.cell? w' ⟨g1, 2, none⟩ = some (.int .i64 x.auto)) ∧ (World.cell? w' (sad.add (k * 3)) = some (.string x.name) ∧ World.cell? w' (⟨(sad.add (k * 3)).block, (sad.add (k * 3)).off + 1, none⟩) = some (.slice x.a x.xs.length x.c) ∧ World.cell? w' (⟨(sad.add (k * 3)).block, (sad.add (k * 3)).off + 2, none⟩) = some (.int .i64 x.auto)))) (by kernel_rfl) ⟨Bag.cs4 (Bag.drew1 S4.out) 0 rfl, Bag.cs3 (Bag.drew1 S4.out) 1 rfl, HKx.out _ (Bag.drew1 S4.out).old⟩ (fun hS => ?_)
          have S5 := Lib.hid (show Sl.Sep w _ [L4.boxR w.heap.size 31 #[.string name, .int .i64 ver, .slice (some sad) N sc, .slice ua M uc], L4.boxR g1 44 #[.string x.name, .slice x.a x.xs.length x.c, .int .i64 x.auto]] from Bag.drew1 S4.out)
          clear S4
          generalize World.drew _ = w3 at hS S5 ⊢
          refine tk 0 rfl ?_
          try simp only [zp0, zp1, zp2, zp3, zp4]
          refine tk 1 rfl ?_
          try simp only [zp0, zp1, zp2, zp3, zp4]
          refine tk 2 rfl ?_
          try simp only [zp0, zp1, zp2, zp3, zp4]
          refine sk 3 rfl ?_
          try simp only [zp0, zp1, zp2, zp3, zp4]
          refine sk 4 rfl ?_
          try simp only [zp0, zp1, zp2, zp3, zp4]
          refine sk 5 rfl ?_
          try simp only [zp0, zp1, zp2, zp3, zp4]
          refine sk 6 rfl ?_
          try simp only [zp0, zp1, zp2, zp3, zp4]
          refine sk 7 rfl ?_
          try simp only [zp0, zp1, zp2, zp3, zp4]
          refine sk 8 rfl ?_
          try simp only [zp0, zp1, zp2, zp3, zp4]
          refine sk 9 rfl ?_
          try simp only [zp0, zp1, zp2, zp3, zp4]
          refine sk 10 rfl ?_
          try simp only [zp0, zp1, zp2, zp3, zp4]
          refine sk 11 rfl ?_
          try simp only [zp0, zp1, zp2, zp3, zp4]
          refine sk 12 rfl ?_
          try simp only [zp0, zp1, zp2, zp3, zp4]
          refine tk 13 rfl ?_
          try simp only [zp0, zp1, zp2, zp3, zp4]
          refine wpAnyH_done (by kernel_rfl) ?_ _
          have hh := Bag.cs4 S5.out 0 rfl
          have f0 := hh.1; have f1 := hh.2.1; have f2 := hh.2.2.1; have f3 := hh.2.2.2; clear hh
          have hh := Bag.cs3 S5.out 1 rfl
          have f4 := hh.1; have f5 := hh.2.1; have f6 := hh.2.2; clear hh
          have hh := HKx.out _ S5.out.old
          have f7 := hh.1; have f8 := hh.2.1; have f9 := hh.2.2; clear hh
          clear f0 f1 f2 f3 f4 f5 f6 f7 f8 f9
          have S6 := Lib.hid (show Sl.Sep w _ [L4.boxR w.heap.size 31 #[.string name, .int .i64 ver, .slice (some sad) N sc, .slice ua M uc]] from Bag.take S5.out [0] (by rfl) (by decide))
          clear S5
          go_wp2_with fail
          go_roundw
          case rel => exact ⟨k + 1, by omega, by go_num, And.intro (fun j h => by
            by_cases e : j < k
            · exact HA.out j e
            · obtain rfl : j = k := by omega
              rw [okSx_at HCx.out, HBK.out, HZ.out]; rfl) S6.out⟩
          case measure => simp [intOf]; omega
        · obtain ⟨m, hkm⟩ : ∃ m, k = m + 1 := ⟨k - 1, by omega⟩
          have hki : (k : Int) - 1 = (m : Int) := by omega
          have HKM := Lib.hid hkm
          have hm0 : m < ss.length := by omega
          have hmi : (m : Int) < (N : Int) := by omega
          have hmw : IntKind.i64.wrap (m : Int) = (m : Int) := IntWalk.i64_in _ ⟨by omega, by omega⟩
          clear hkm
          clear f0 f1 f2 f3 f4 f5 f6 f7 f8 f9
          obtain ⟨y, hy⟩ : ∃ x, ss[m]? = some x := ⟨_, List.getElem?_eq_getElem hm0⟩
          have HKy := Lib.hid (fun w' (h : Below w.heap.size w w') => el3 cl_Store_len (HR.out _ h) hy rfl)
          have HRy := Lib.hid (fun w' (h : Below w.heap.size w w') => rd_store (HX.out w' h) hy)
          have HFy := Lib.hid (fit_store HFD.out.stores hy)
          have HCy := Lib.hid (coS_at hy)
          clear hy
          have hge := string_geq
          cases hc : bytesLess y.name.toList x.name.toList with
          | false =>
            have hh := Bag.cs4 S4.out 0 rfl
            have f0 := hh.1; have f1 := hh.2.1; have f2 := hh.2.2.1; have f3 := hh.2.2.2; clear hh
            have hh := Bag.cs3 S4.out 1 rfl
            have f4 := hh.1; have f5 := hh.2.1; have f6 := hh.2.2; clear hh
            have hh := HKx.out _ S4.out.old
            have f7 := hh.1; have f8 := hh.2.1; have f9 := hh.2.2; clear hh
            have hh := HKy.out _ S4.out.old
            have f10 := hh.1; have f11 := hh.2.1; have f12 := hh.2.2; clear hh
            go_upto_region 8 with fail
            clear f0 f1 f2 f3 f4 f5 f6 f7 f8 f9 f10 f11 f12
            refine wp_region_held_drew (S := (fun w' => (World.cell? w' ⟨w.heap.size, 0, none⟩ = some (.string name) ∧ World.cell? w' ⟨w.heap.size, 1, none⟩ = some (.int .i64 ver) ∧ World.cell? w' ⟨w.heap.size, 2, none⟩ = some (.slice (some sad) N sc) ∧ World.cell? w' ⟨w.heap.size, 3, none⟩ = some (.slice ua M uc)) ∧ (World.cell? w' ⟨g1, 0, none⟩ = some (.string x.name) ∧ World.cell? w' ⟨g1, 1, none⟩ = some (.slice x.a x.xs.length x.c) ∧ World.cell? w' ⟨g1, 2, none⟩ = some (.int .i64 x.auto)) ∧ (World.cell? w' (sad.add (k * 3)) = some (.string x.name) ∧ World.cell? w' (⟨(sad.add (k * 3)).block, (sad.add (k * 3)).off + 1, none⟩) = some (.slice x.a x.xs.length x.c) ∧ World.cell? w' (⟨(sad.add (k * 3)).block, (sad.add (k * 3)).off + 2, none⟩) = some (.int .i64 x.auto)) ∧ (World.cell? w' (sad.add (m * 3)) = some (.string y.name) ∧ World.cell? w' (⟨(sad.add (m * 3)).block, (sad.add (m * 3)).off + 1, none⟩) = some (.slice y.a y.xs.length y.c) ∧ World.cell? w' (⟨(sad.add (m * 3)).block, (sad.add (m * 3)).off + 2, none⟩) = some (.int .i64 y.auto)))) (by kernel_rfl) ⟨Bag.cs4 (Bag.drew1 S4.out) 0 rfl, Bag.cs3 (Bag.drew1 S4.out) 1 rfl, HKx.out _ (Bag.drew1 S4.out).old, HKy.out _ (Bag.drew1 S4.out).old⟩ (fun hS => ?_)
            have S5 := Lib.hid (show Sl.Sep w _ [L4.boxR w.heap.size 31 #[.string name, .int .i64 ver, .slice (some sad) N sc, .slice ua M uc], L4.boxR g1 44 #[.string x.name, .slice x.a x.xs.length x.c, .int .i64 x.auto]] from Bag.drew1 S4.out)
            clear S4
            generalize World.drew _ = w3 at hS S5 ⊢
            refine tk 0 rfl ?_
            try simp only [zp0, zp1, zp2, zp3, zp4]
            refine tk 1 rfl ?_
            try simp only [zp0, zp1, zp2, zp3, zp4]
            refine tk 2 rfl ?_
            try simp only [zp0, zp1, zp2, zp3, zp4]
            refine tk 3 rfl ?_
            try simp only [zp0, zp1, zp2, zp3, zp4]
            refine tk 4 rfl ?_
            try simp only [zp0, zp1, zp2, zp3, zp4]
            refine tk 5 rfl ?_
            try simp only [zp0, zp1, zp2, zp3, zp4]
            refine tk 6 rfl ?_
            try simp only [zp0, zp1, zp2, zp3, zp4]
            refine tk 7 rfl ?_
            try simp only [zp0, zp1, zp2, zp3, zp4]
            refine tk 8 rfl ?_
            try simp only [zp0, zp1, zp2, zp3, zp4]
            refine tk 9 rfl ?_
            try simp only [zp0, zp1, zp2, zp3, zp4]
            refine tk 10 rfl ?_
            try simp only [zp0, zp1, zp2, zp3, zp4]
            refine tk 11 rfl ?_
            try simp only [zp0, zp1, zp2, zp3, zp4]
            refine tk 12 rfl ?_
            try simp only [zp0, zp1, zp2, zp3, zp4]
            refine tk 13 rfl ?_
            try simp only [zp0, zp1, zp2, zp3, zp4]
            refine wpAnyH_done (by kernel_rfl) ?_ _
            have hh := Bag.cs4 S5.out 0 rfl
            have f0 := hh.1; have f1 := hh.2.1; have f2 := hh.2.2.1; have f3 := hh.2.2.2; clear hh
            have hh := Bag.cs3 S5.out 1 rfl
            have f4 := hh.1; have f5 := hh.2.1; have f6 := hh.2.2; clear hh
            have hh := HKx.out _ S5.out.old
            have f7 := hh.1; have f8 := hh.2.1; have f9 := hh.2.2; clear hh
            have hh := HKy.out _ S5.out.old
            have f10 := hh.1; have f11 := hh.2.1; have f12 := hh.2.2; clear hh
            have HNO := Lib.hid (show B = false from by rw [← HB.out]; exact allTo_no k (by omega) (by rw [okSx_at HCx.out, HBK.out, HKM.out, ahead8_at HCy.out]; exact hc))
            go_wp2_with fail
            go_ret
            exact ⟨by rw [HD.out, HNO.out] <;> rfl, S5.out.old⟩
          | true =>
            have hh := Bag.cs4 S4.out 0 rfl
            have f0 := hh.1; have f1 := hh.2.1; have f2 := hh.2.2.1; have f3 := hh.2.2.2; clear hh
            have hh := Bag.cs3 S4.out 1 rfl
            have f4 := hh.1; have f5 := hh.2.1; have f6 := hh.2.2; clear hh
            have hh := HKx.out _ S4.out.old
            have f7 := hh.1; have f8 := hh.2.1; have f9 := hh.2.2; clear hh
            have hh := HKy.out _ S4.out.old
            have f10 := hh.1; have f11 := hh.2.1; have f12 := hh.2.2; clear hh
            go_upto_region 8 with fail
            clear f0 f1 f2 f3 f4 f5 f6 f7 f8 f9 f10 f11 f12
            refine wp_region_held_drew (S := (fun w' => (World.cell? w' ⟨w.heap.size, 0, none⟩ = some (.string name) ∧ World.cell? w' ⟨w.heap.size, 1, none⟩ = some (.int .i64 ver) ∧ World.cell? w' ⟨w.heap.size, 2, none⟩ = some (.slice (some sad) N sc) ∧ World.cell? w' ⟨w.heap.size, 3, none⟩ = some (.slice ua M uc)) ∧ (World.cell? w' ⟨g1, 0, none⟩ = some (.string x.name) ∧ World.cell? w' ⟨g1, 1, none⟩ = some (.slice x.a x.xs.length x.c) ∧ World.cell? w' ⟨g1, 2, none⟩ = some (.int .i64 x.auto)) ∧ (World.cell? w' (sad.add (k * 3)) = some (.string x.name) ∧ World.cell? w' (⟨(sad.add (k * 3)).block, (sad.add (k * 3)).off + 1, none⟩) = some (.slice x.a x.xs.length x.c) ∧ World.cell? w' (⟨(sad.add (k * 3)).block, (sad.add (k * 3)).off + 2, none⟩) = some (.int .i64 x.auto)) ∧ (World.cell? w' (sad.add (m * 3)) = some (.string y.name) ∧ World.cell? w' (⟨(sad.add (m * 3)).block, (sad.add (m * 3)).off + 1, none⟩) = some (.slice y.a y.xs.length y.c) ∧ World.cell? w' (⟨(sad.add (m * 3)).block, (sad.add (m * 3)).off + 2, none⟩) = some (.int .i64 y.auto)))) (by kernel_rfl) ⟨Bag.cs4 (Bag.drew1 S4.out) 0 rfl, Bag.cs3 (Bag.drew1 S4.out) 1 rfl, HKx.out _ (Bag.drew1 S4.out).old, HKy.out _ (Bag.drew1 S4.out).old⟩ (fun hS => ?_)
            have S5 := Lib.hid (show Sl.Sep w _ [L4.boxR w.heap.size 31 #[.string name, .int .i64 ver, .slice (some sad) N sc, .slice ua M uc], L4.boxR g1 44 #[.string x.name, .slice x.a x.xs.length x.c, .int .i64 x.auto]] from Bag.drew1 S4.out)
            clear S4
            generalize World.drew _ = w3 at hS S5 ⊢
            refine tk 0 rfl ?_
            try simp only [zp0, zp1, zp2, zp3, zp4]
            refine tk 1 rfl ?_
            try simp only [zp0, zp1, zp2, zp3, zp4]
            refine tk 2 rfl ?_
            try simp only [zp0, zp1, zp2, zp3, zp4]
            refine tk 3 rfl ?_
            try simp only [zp0, zp1, zp2, zp3, zp4]
            refine tk 4 rfl ?_
            try simp only [zp0, zp1, zp2, zp3, zp4]
            refine tk 5 rfl ?_
            try simp only [zp0, zp1, zp2, zp3, zp4]
            refine tk 6 rfl ?_
            try simp only [zp0, zp1, zp2, zp3, zp4]
            refine tk 7 rfl ?_
            try simp only [zp0, zp1, zp2, zp3, zp4]
            refine tk 8 rfl ?_
            try simp only [zp0, zp1, zp2, zp3, zp4]
            refine tk 9 rfl ?_
            try simp only [zp0, zp1, zp2, zp3, zp4]
            refine tk 10 rfl ?_
            try simp only [zp0, zp1, zp2, zp3, zp4]
            refine tk 11 rfl ?_
            try simp only [zp0, zp1, zp2, zp3, zp4]
            refine tk 12 rfl ?_
            try simp only [zp0, zp1, zp2, zp3, zp4]
            refine tk 13 rfl ?_
            try simp only [zp0, zp1, zp2, zp3, zp4]
            refine wpAnyH_done (by kernel_rfl) ?_ _
            have hh := Bag.cs4 S5.out 0 rfl
            have f0 := hh.1; have f1 := hh.2.1; have f2 := hh.2.2.1; have f3 := hh.2.2.2; clear hh
            have hh := Bag.cs3 S5.out 1 rfl
            have f4 := hh.1; have f5 := hh.2.1; have f6 := hh.2.2; clear hh
            have hh := HKx.out _ S5.out.old
            have f7 := hh.1; have f8 := hh.2.1; have f9 := hh.2.2; clear hh
            have hh := HKy.out _ S5.out.old
            have f10 := hh.1; have f11 := hh.2.1; have f12 := hh.2.2; clear hh
            clear f0 f1 f2 f3 f4 f5 f6 f7 f8 f9 f10 f11 f12
            have S6 := Lib.hid (show Sl.Sep w _ [L4.boxR w.heap.size 31 #[.string name, .int .i64 ver, .slice (some sad) N sc, .slice ua M uc]] from Bag.take S5.out [0] (by rfl) (by decide))
            clear S5
            go_wp2_with fail
            go_roundw
            case rel => exact ⟨k + 1, by omega, by go_num, And.intro (fun j h => by
              by_cases e : j < k
              · exact HA.out j e
              · obtain rfl : j = k := by omega
                rw [okSx_at HCx.out, HBK.out, HKM.out, ahead8_at HCy.out]; exact hc) S6.out⟩
            case measure => simp [intOf]; omega
    · skip
      obtain rfl : k = N := by omega
      have HYES := Lib.hid (show B = true from by rw [← HB.out]; exact allTo_all HA.out)
      have hh := Bag.cs4 S2.out 0 rfl
      have f0 := hh.1; have f1 := hh.2.1; have f2 := hh.2.2.1; have f3 := hh.2.2.2; clear hh
      go_wp2_with fail
      go_ret
      exact ⟨by rw [HD.out, HYES.out] <;> rfl, S2.out.old⟩
set_option maxHeartbeats 8000000 in
theorem hasValidIndexes_any (z : Y_Database) (hf : FitD (co_Database z)) (w : World) (hr : RowsRd w w.heap.size (rw_Database z)) :
    Calls Try.prog 29 #[vv_Database z] w fun e w' => e = .returned (.bool (decide ((co_Database z).f_Unique.length ≤ 4) && allTo (okUx (co_Database z).f_Stores (co_Database z).f_Unique) (co_Database z).f_Unique.length)) ∧ Below w.heap.size w w' := by
  have HKT := Lib.hid (fun (u : X_IndexDef) (hu : FitX u) w' (h : Below w.heap.size w w') => isKept_any z u hf hu w' ((hr.below h).more h.size))
  unfold vv_Database co_Database at HKT
  have HR : Hid (∀ w' (h : Below w.heap.size w w'), Reads w' w.heap.size z.f_Stores_a (z.f_Stores.flatMap cl_Store)) := Lib.hid (fun w' h => (rdS hr).below h)
  have HX : Hid (∀ w' (h : Below w.heap.size w w'), RowsRd w' w'.heap.size (rws_Store z.f_Stores)) := Lib.hid (fun w' h => ((rdX hr).below h).more h.size)
  have HU : Hid (∀ w' (h : Below w.heap.size w w'), Reads w' w.heap.size z.f_Unique_a (z.f_Unique.flatMap cl_IndexDef)) := Lib.hid (fun w' h => (rdU hr).below h)
  have HFD := Lib.hid hf
  have HFDl : z.f_Stores.length ≤ 1048576 := by have h := hf.len; rwa [co_len] at h
  have HFDm : z.f_Unique.length ≤ 1048576 := hf.many
  clear hf
  have HUCAP := Lib.hid (rd_head (rd_right hr)).cap
  clear hr
  obtain ⟨name, ver, sa, sc, ss, ua, uc, us⟩ := z
  dsimp only [co_Database] at HR HX HU HFD HFDl HFDm
  replace HUCAP := Lib.hid (show us.length ≤ uc from HUCAP.out)
  try unfold vv_Database
  try unfold co_Database
  try dsimp only
  try rw [show coS_IndexDef us = us from rfl]
  rw [show coS_IndexDef us = us from rfl] at HFD
  obtain ⟨N, hN⟩ : ∃ n, n = ss.length := ⟨_, rfl⟩
  obtain ⟨M, hM⟩ : ∃ n, n = us.length := ⟨_, rfl⟩
  rw [← hN] at HFDl ⊢
  rw [← hM] at HFDm ⊢
  have HFDl' : (N : Int) ≤ 1048576 := by omega
  have HFDm' : (M : Int) ≤ 1048576 := by omega
  have HN := Lib.hid hN
  have HM := Lib.hid hM
  clear hN hM
  rw [← HN.out, ← HM.out] at HKT
  try dsimp only at HKT
  have HKTL := HKT
  obtain ⟨B, hB⟩ : ∃ b, allTo (okUx (coS_Store ss) us) M = b := ⟨_, rfl⟩
  have HB := Lib.hid hB
  rw [hB]
  clear hB HKTL
  have S1 := Lib.hid (show Sl.Sep w (w.alloc (.cells #[.string name, .int .i64 ver, .slice sa N sc, .slice ua M uc] 31)) [L4.boxR w.heap.size 31 #[.string name, .int .i64 ver, .slice sa N sc, .slice ua M uc]] from L4.push_box (Sl.Sep.start w) 31 #[.string name, .int .i64 ver, .slice sa N sc, .slice ua M uc] (w.heap.size) (by simp))
  obtain ⟨wa, hwa⟩ : ∃ w_, w_ = (w.alloc (.cells #[.string name, .int .i64 ver, .slice sa N sc, .slice ua M uc] 31)) := ⟨_, rfl⟩
  rw [← hwa] at S1
  go_enter Try.func29, Try.ntmps29
  go_upto_region 1 with fail
  rw [← hwa]
  clear hwa
  have hh := Bag.cs4 S1.out 0 rfl
  have f0 := hh.1; have f1 := hh.2.1; have f2 := hh.2.2.1; have f3 := hh.2.2.2; clear hh
  by_cases h4 : M ≤ 4
  rotate_left
  · have h4i : (4 : Int) < (M : Int) := by omega
    have hd := decide_eq_false h4
    go_wp2_with fail
    go_ret
    exact ⟨by rw [hd] <;> rfl, S1.out.old⟩
  have h4i : ¬ (4 : Int) < (M : Int) := by omega
  have HD := Lib.hid (decide_eq_true h4)
  clear h4
  go_wp2_with fail
  clear f0 f1 f2 f3
  go_loopw [12] (fun i wr => ∃ k : Nat, k ≤ M ∧ i = .int .i64 k ∧ Hid ((∀ j, j < k → okUx (coS_Store ss) us j = true) ∧ Sl.Sep w wr [L4.boxR w.heap.size 31 #[.string name, .int .i64 ver, .slice sa N sc, .slice ua M uc]])) (fun i _ => M - (intOf i).toNat)
  case atStart => exact ⟨0, Nat.zero_le _, rfl, And.intro (fun j h => absurd h (by omega)) S1.out⟩
  case round =>
    obtain ⟨k, hk, rfl, hrel⟩ := hrel
    have HA := Lib.hid hrel.out.1
    have S2 := Lib.hid hrel.out.2
    clear hrel S1
    by_cases hlt : (k : Int) < (M : Int)
    · skip
      have hkl : k < us.length := by have := HM.out; omega
      have HUC := Lib.hid (show True from trivial)
      obtain ⟨u, hu⟩ : ∃ x, us[k]? = some x := ⟨_, List.getElem?_eq_getElem hkl⟩
      obtain ⟨uad, e'⟩ := el_some cl_IndexDef_len (by decide) (HU.out _ S2.out.old) hkl
      subst e'
      have HKu := Lib.hid (fun w' (h : Below w.heap.size w w') => el2 cl_IndexDef_len (HU.out _ h) hu rfl)
      have HFu := Lib.hid (HFD.out.unique _ (List.mem_of_getElem? hu))
      have HCu := Lib.hid hu
      clear hu
      have HCT := fun w' (h : Below w.heap.size w w') => containsX_any (some uad) uc (us.take k) u (by rw [List.length_take]; omega) w' ((reads_take (HU.out _ h) k).more h.size)
      rw [V.take_len (Nat.le_of_lt hkl)] at HCT
      obtain ⟨bc, hbc⟩ : ∃ b, (fndX (us.take k) u).isSome = b := ⟨_, rfl⟩
      rw [hbc] at HCT
      have HBC := Lib.hid (show freshX us u k = !bc from by rw [fresh_eq, hbc])
      have HIK := HKT.out u HFu.out
      obtain ⟨bk, hbk⟩ : ∃ b, keptX (coS_Store ss) u = b := ⟨_, rfl⟩
      rw [hbk] at HIK
      have HBK := Lib.hid hbk
      unfold vv_IndexDef at HCT HIK
      replace HCT := Lib.hid HCT
      replace HIK := Lib.hid HIK
      clear hbk hbc
      have hkuc : (k : Int) ≤ (uc : Int) := by have := HUCAP.out; omega
      have hh := Bag.cs4 S2.out 0 rfl
      have f0 := hh.1; have f1 := hh.2.1; have f2 := hh.2.2.1; have f3 := hh.2.2.2; clear hh
      have hh := HKu.out _ S2.out.old
      have f4 := hh.1; have f5 := hh.2; clear hh
      go_upto_region 6 with fail
      clear f0 f1 f2 f3 f4 f5
      have S3 := Lib.hid (show Sl.Sep w _ [L4.boxR w.heap.size 31 #[.string name, .int .i64 ver, .slice sa N sc, .slice (some uad) M uc], L4.boxR wr.heap.size 46 #[.string u.f_Store, .string u.f_Field]] from L4.push_box S2.out 46 #[.string u.f_Store, .string u.f_Field] wr.heap.size rfl)
      clear S2
      obtain ⟨g1, hg⟩ : ∃ g', g' = wr.heap.size := ⟨_, rfl⟩
      rw [← hg] at S3 ⊢
      clear hg
      generalize wr.alloc (.cells #[.string u.f_Store, .string u.f_Field] 46) = w1 at S3 ⊢
      have hh := Bag.cs4 S3.out 0 rfl
      have f0 := hh.1; have f1 := hh.2.1; have f2 := hh.2.2.1; have f3 := hh.2.2.2; clear hh
      have hh := Bag.cs2 S3.out 1 rfl
      have f4 := hh.1; have f5 := hh.2; clear hh
      have hh := HKu.out _ S3.out.old
      have f6 := hh.1; have f7 := hh.2; clear hh
      cases bc with
      | true =>
        clear f0 f1 f2 f3 f4 f5 f6 f7
        refine wp_region_held_drew (S := (fun w' => (World.cell? w' ⟨w.heap.size, 0, none⟩ = some (.string name) ∧ World.cell? w' ⟨w.heap.size, 1, none⟩ = some (.int .i64 ver) ∧ World.cell? w' ⟨w.heap.size, 2, none⟩ = some (.slice sa N sc) ∧ World.cell? w' ⟨w.heap.size, 3, none⟩ = some (.slice (some uad) M uc)) ∧ (World.cell? w' ⟨g1, 0, none⟩ = some (.string u.f_Store) ∧ World.cell? w' ⟨g1, 1, none⟩ = some (.string u.f_Field)) ∧ (World.cell? w' (uad.add (k * 2)) = some (.string u.f_Store) ∧ World.cell? w' (⟨(uad.add (k * 2)).block, (uad.add (k * 2)).off + 1, none⟩) = some (.string u.f_Field)))) (by kernel_rfl) ⟨Bag.cs4 (Bag.drew1 S3.out) 0 rfl, Bag.cs2 (Bag.drew1 S3.out) 1 rfl, HKu.out _ (Bag.drew1 S3.out).old⟩ (fun hS => ?_)
        have S4 := Lib.hid (show Sl.Sep w _ [L4.boxR w.heap.size 31 #[.string name, .int .i64 ver, .slice sa N sc, .slice (some uad) M uc], L4.boxR g1 46 #[.string u.f_Store, .string u.f_Field]] from Bag.drew1 S3.out)
        clear S3
        generalize World.drew _ = w2 at hS S4 ⊢
        refine tk 0 rfl ?_
        try simp only [zp0, zp1, zp2, zp3, zp4]
        refine tk 1 rfl ?_
        try simp only [zp0, zp1, zp2, zp3, zp4]
        refine tk 2 rfl ?_
        try simp only [zp0, zp1, zp2, zp3, zp4]
        refine tk 3 rfl ?_
        try simp only [zp0, zp1, zp2, zp3, zp4]
        refine tk 4 rfl ?_
        try simp only [zp0, zp1, zp2, zp3, zp4]
        refine Reg.one_op (i := 5) rfl (by kernel_rfl) (fun K hK => ?_)
        go_simp
        go_at_call 51
        refine (HCT.out _ S4.out.old).mono ?_
        rintro e w3 ⟨rfl, hb⟩
        have S5 := Lib.hid (S4.out.keep hb)
        clear S4
        clear hb
        go_wp2_with fail
        refine hK.out _ _ ⟨Bag.cs4 S5.out 0 rfl, Bag.cs2 S5.out 1 rfl, HKu.out _ S5.out.old⟩ (fun hS => ?_)
        clear hK K
        try simp only [zp0, zp1, zp2, zp3, zp4]
        refine tk 6 rfl ?_
        try simp only [zp0, zp1, zp2, zp3, zp4]
        refine sk 7 rfl ?_
        try simp only [zp0, zp1, zp2, zp3, zp4]
        refine sk 8 rfl ?_
        try simp only [zp0, zp1, zp2, zp3, zp4]
        refine Reg.skip_one (i := 9) rfl (by kernel_rfl) (by rfl) (by assumption) ?_
        try simp only [zp0, zp1, zp2, zp3, zp4]
        refine sk 10 rfl ?_
        try simp only [zp0, zp1, zp2, zp3, zp4]
        refine tk 11 rfl ?_
        try simp only [zp0, zp1, zp2, zp3, zp4]
        refine wpAnyH_done (by kernel_rfl) ?_ _
        have hh := Bag.cs4 S5.out 0 rfl
        have f0 := hh.1; have f1 := hh.2.1; have f2 := hh.2.2.1; have f3 := hh.2.2.2; clear hh
        have hh := Bag.cs2 S5.out 1 rfl
        have f4 := hh.1; have f5 := hh.2; clear hh
        have hh := HKu.out _ S5.out.old
        have f6 := hh.1; have f7 := hh.2; clear hh
        have HNO := Lib.hid (show B = false from by rw [← HB.out]; exact allTo_no k (by omega) (by rw [okUx_at HCu.out, HBC.out]; cases keptX (coS_Store ss) u <;> rfl))
        go_wp2_with fail
        go_ret
        exact ⟨by rw [HD.out, HNO.out] <;> rfl, S5.out.old⟩
      | false =>
        cases bk with
        | false =>
          clear f0 f1 f2 f3 f4 f5 f6 f7
          refine wp_region_held_drew (S := (fun w' => (World.cell? w' ⟨w.heap.size, 0, none⟩ = some (.string name) ∧ World.cell? w' ⟨w.heap.size, 1, none⟩ = some (.int .i64 ver) ∧ World.cell? w' ⟨w.heap.size, 2, none⟩ = some (.slice sa N sc) ∧ World.cell? w' ⟨w.heap.size, 3, none⟩ = some (.slice (some uad) M uc)) ∧ (World.cell? w' ⟨g1, 0, none⟩ = some (.string u.f_Store) ∧ World.cell? w' ⟨g1, 1, none⟩ = some (.string u.f_Field)) ∧ (World.cell? w' (uad.add (k * 2)) = some (.string u.f_Store) ∧ World.cell? w' (⟨(uad.add (k * 2)).block, (uad.add (k * 2)).off + 1, none⟩) = some (.string u.f_Field)))) (by kernel_rfl) ⟨Bag.cs4 (Bag.drew1 S3.out) 0 rfl, Bag.cs2 (Bag.drew1 S3.out) 1 rfl, HKu.out _ (Bag.drew1 S3.out).old⟩ (fun hS => ?_)
          have S4 := Lib.hid (show Sl.Sep w _ [L4.boxR w.heap.size 31 #[.string name, .int .i64 ver, .slice sa N sc, .slice (some uad) M uc], L4.boxR g1 46 #[.string u.f_Store, .string u.f_Field]] from Bag.drew1 S3.out)
          clear S3
          generalize World.drew _ = w2 at hS S4 ⊢
          refine tk 0 rfl ?_
          try simp only [zp0, zp1, zp2, zp3, zp4]
          refine tk 1 rfl ?_
          try simp only [zp0, zp1, zp2, zp3, zp4]
          refine tk 2 rfl ?_
          try simp only [zp0, zp1, zp2, zp3, zp4]
          refine tk 3 rfl ?_
          try simp only [zp0, zp1, zp2, zp3, zp4]
          refine tk 4 rfl ?_
          try simp only [zp0, zp1, zp2, zp3, zp4]
          refine Reg.one_op (i := 5) rfl (by kernel_rfl) (fun K hK => ?_)
          go_simp
          go_at_call 51
          refine (HCT.out _ S4.out.old).mono ?_
          rintro e w3 ⟨rfl, hb⟩
          have S5 := Lib.hid (S4.out.keep hb)
          clear S4
          clear hb
          go_wp2_with fail
          refine hK.out _ _ ⟨Bag.cs4 S5.out 0 rfl, Bag.cs2 S5.out 1 rfl, HKu.out _ S5.out.old⟩ (fun hS => ?_)
          clear hK K
          try simp only [zp0, zp1, zp2, zp3, zp4]
          refine tk 6 rfl ?_
          try simp only [zp0, zp1, zp2, zp3, zp4]
          refine tk 7 rfl ?_
          try simp only [zp0, zp1, zp2, zp3, zp4]
          refine tk 8 rfl ?_
          try simp only [zp0, zp1, zp2, zp3, zp4]
          refine Reg.one_op (i := 9) rfl (by kernel_rfl) (fun K hK => ?_)
          go_simp
          go_at_call 52
          refine (HIK.out _ S5.out.old).mono ?_
          rintro e w4 ⟨rfl, hb⟩
          have S6 := Lib.hid (S5.out.keep hb)
          clear S5
          clear hb
          go_wp2_with fail
          refine hK.out _ _ ⟨Bag.cs4 S6.out 0 rfl, Bag.cs2 S6.out 1 rfl, HKu.out _ S6.out.old⟩ (fun hS => ?_)
          clear hK K
          try simp only [zp0, zp1, zp2, zp3, zp4]
          refine tk 10 rfl ?_
          try simp only [zp0, zp1, zp2, zp3, zp4]
          refine tk 11 rfl ?_
          try simp only [zp0, zp1, zp2, zp3, zp4]
          refine wpAnyH_done (by kernel_rfl) ?_ _
          have hh := Bag.cs4 S6.out 0 rfl
          have f0 := hh.1; have f1 := hh.2.1; have f2 := hh.2.2.1; have f3 := hh.2.2.2; clear hh
          have hh := Bag.cs2 S6.out 1 rfl
          have f4 := hh.1; have f5 := hh.2; clear hh
          have hh := HKu.out _ S6.out.old
          have f6 := hh.1; have f7 := hh.2; clear hh
          have HNO := Lib.hid (show B = false from by rw [← HB.out]; exact allTo_no k (by omega) (by rw [okUx_at HCu.out, HBK.out]; rfl))
          go_wp2_with fail
          go_ret
          exact ⟨by rw [HD.out, HNO.out] <;> rfl, S6.out.old⟩
        | true =>
          clear f0 f1 f2 f3 f4 f5 f6 f7
          refine wp_region_held_drew (S := (fun w' => (World.cell? w' ⟨w.heap.size, 0, none⟩ = some (.string name) ∧ World.cell? w' ⟨w.heap.size, 1, none⟩ = some (.int .i64 ver) ∧ World.cell? w' ⟨w.heap.size, 2, none⟩ = some (.slice sa N sc) ∧ World.cell? w' ⟨w.heap.size, 3, none⟩ = some (.slice (some uad) M uc)) ∧ (World.cell? w' ⟨g1, 0, none⟩ = some (.string u.f_Store) ∧ World.cell? w' ⟨g1, 1, none⟩ = some (.string u.f_Field)) ∧ (World.cell? w' (uad.add (k * 2)) = some (.string u.f_Store) ∧ World.cell? w' (⟨(uad.add (k * 2)).block, (uad.add (k * 2)).off + 1, none⟩) = some (.string u.f_Field)))) (by kernel_rfl) ⟨Bag.cs4 (Bag.drew1 S3.out) 0 rfl, Bag.cs2 (Bag.drew1 S3.out) 1 rfl, HKu.out _ (Bag.drew1 S3.out).old⟩ (fun hS => ?_)
          have S4 := Lib.hid (show Sl.Sep w _ [L4.boxR w.heap.size 31 #[.string name, .int .i64 ver, .slice sa N sc, .slice (some uad) M uc], L4.boxR g1 46 #[.string u.f_Store, .string u.f_Field]] from Bag.drew1 S3.out)
          clear S3
          generalize World.drew _ = w2 at hS S4 ⊢
          refine tk 0 rfl ?_
          try simp only [zp0, zp1, zp2, zp3, zp4]
          refine tk 1 rfl ?_
          try simp only [zp0, zp1, zp2, zp3, zp4]
          refine tk 2 rfl ?_
          try simp only [zp0, zp1, zp2, zp3, zp4]
          refine tk 3 rfl ?_
          try simp only [zp0, zp1, zp2, zp3, zp4]
          refine tk 4 rfl ?_
          try simp only [zp0, zp1, zp2, zp3, zp4]
          refine Reg.one_op (i := 5) rfl (by kernel_rfl) (fun K hK => ?_)
          go_simp
          go_at_call 51
          refine (HCT.out _ S4.out.old).mono ?_
          rintro e w3 ⟨rfl, hb⟩
          have S5 := Lib.hid (S4.out.keep hb)
          clear S4
          clear hb
          go_wp2_with fail
          refine hK.out _ _ ⟨Bag.cs4 S5.out 0 rfl, Bag.cs2 S5.out 1 rfl, HKu.out _ S5.out.old⟩ (fun hS => ?_)
          clear hK K
          try simp only [zp0, zp1, zp2, zp3, zp4]
          refine tk 6 rfl ?_
          try simp only [zp0, zp1, zp2, zp3, zp4]
          refine tk 7 rfl ?_
          try simp only [zp0, zp1, zp2, zp3, zp4]
          refine tk 8 rfl ?_
          try simp only [zp0, zp1, zp2, zp3, zp4]
          refine Reg.one_op (i := 9) rfl (by kernel_rfl) (fun K hK => ?_)
          go_simp
          go_at_call 52
          refine (HIK.out _ S5.out.old).mono ?_
          rintro e w4 ⟨rfl, hb⟩
          have S6 := Lib.hid (S5.out.keep hb)
          clear S5
          clear hb
          go_wp2_with fail
          refine hK.out _ _ ⟨Bag.cs4 S6.out 0 rfl, Bag.cs2 S6.out 1 rfl, HKu.out _ S6.out.old⟩ (fun hS => ?_)
          clear hK K
          try simp only [zp0, zp1, zp2, zp3, zp4]
          refine tk 10 rfl ?_
          try simp only [zp0, zp1, zp2, zp3, zp4]
          refine tk 11 rfl ?_
          try simp only [zp0, zp1, zp2, zp3, zp4]
          refine wpAnyH_done (by kernel_rfl) ?_ _
          have hh := Bag.cs4 S6.out 0 rfl
          have f0 := hh.1; have f1 := hh.2.1; have f2 := hh.2.2.1; have f3 := hh.2.2.2; clear hh
          have hh := Bag.cs2 S6.out 1 rfl
          have f4 := hh.1; have f5 := hh.2; clear hh
          have hh := HKu.out _ S6.out.old
          have f6 := hh.1; have f7 := hh.2; clear hh
          clear f0 f1 f2 f3 f4 f5 f6 f7
          have S7 := Lib.hid (show Sl.Sep w _ [L4.boxR w.heap.size 31 #[.string name, .int .i64 ver, .slice sa N sc, .slice (some uad) M uc]] from Bag.take S6.out [0] (by rfl) (by decide))
          clear S6
          go_wp2_with fail
          go_roundw
          case rel => exact ⟨k + 1, by omega, by go_num, And.intro (fun j h => by
            by_cases e : j < k
            · exact HA.out j e
            · obtain rfl : j = k := by omega
              rw [okUx_at HCu.out, HBK.out, HBC.out]; rfl) S7.out⟩
          case measure => simp [intOf]; omega
    · skip
      obtain rfl : k = M := by omega
      have HYES := Lib.hid (show B = true from by rw [← HB.out]; exact allTo_all HA.out)
      have hh := Bag.cs4 S2.out 0 rfl
      have f0 := hh.1; have f1 := hh.2.1; have f2 := hh.2.2.1; have f3 := hh.2.2.2; clear hh
      go_wp2_with fail
      go_ret
      exact ⟨by rw [HD.out, HYES.out] <;> rfl, S2.out.old⟩
set_option maxHeartbeats 4000000 in
theorem isDatabase_any (z : Y_Database) (hf : FitD (co_Database z)) (w : World) (hr : RowsRd w w.heap.size (rw_Database z)) :
    Calls Try.prog 10 #[vv_Database z] w fun e w' => e = .returned (.bool (isD (co_Database z))) ∧ Below w.heap.size w w' := by
  have HVS := fun w' (h : Below w.heap.size w w') => hasValidStores_any z hf w' ((hr.below h).more h.size)
  have HVI := fun w' (h : Below w.heap.size w w') => hasValidIndexes_any z hf w' ((hr.below h).more h.size)
  have HINM := Lib.hid hf.name
  have HE : isD (co_Database z) = (isN (co_Database z).f_Name.data.toList && (L1.inB (co_Database z).f_Version 0 1000 && ((decide ((co_Database z).f_Stores.length ≤ 4) && allTo (okSx (co_Database z).f_Stores) (co_Database z).f_Stores.length) && (decide ((co_Database z).f_Unique.length ≤ 4) && allTo (okUx (co_Database z).f_Stores (co_Database z).f_Unique) (co_Database z).f_Unique.length)))) := by
    unfold isD
    generalize allTo (okSx (co_Database z).f_Stores) (co_Database z).f_Stores.length = b1
    generalize allTo (okUx (co_Database z).f_Stores (co_Database z).f_Unique) (co_Database z).f_Unique.length = b2
    cases b1 <;> cases b2 <;> cases isN (co_Database z).f_Name.data.toList <;> cases L1.inB (co_Database z).f_Version 0 1000 <;> simp
  obtain ⟨vs, hvs⟩ : ∃ b, (decide ((co_Database z).f_Stores.length ≤ 4) && allTo (okSx (co_Database z).f_Stores) (co_Database z).f_Stores.length) = b := ⟨_, rfl⟩
  obtain ⟨vi, hvi⟩ : ∃ b, (decide ((co_Database z).f_Unique.length ≤ 4) && allTo (okUx (co_Database z).f_Stores (co_Database z).f_Unique) (co_Database z).f_Unique.length) = b := ⟨_, rfl⟩
  rw [hvs] at HVS HE
  rw [hvi] at HVI HE
  rw [HE]
  clear HE hvs hvi hf hr
  obtain ⟨name, ver, sa, sc, ss, ua, uc, us⟩ := z
  dsimp only [co_Database, vv_Database] at *
  obtain ⟨N, hN⟩ : ∃ n, n = ss.length := ⟨_, rfl⟩
  obtain ⟨M, hM⟩ : ∃ n, n = us.length := ⟨_, rfl⟩
  rw [← hN, ← hM] at HVS HVI ⊢
  clear hN hM
  replace HVS := Lib.hid HVS
  replace HVI := Lib.hid HVI
  obtain ⟨bn, hbn⟩ : ∃ b, isN name.data.toList = b := ⟨_, rfl⟩
  have HIN := fun w => L5.isName_any name HINM.out w
  rw [hbn] at HIN ⊢
  replace HIN := Lib.hid HIN
  obtain ⟨ba, hba⟩ : ∃ b, L1.inB ver 0 1000 = b := ⟨_, rfl⟩
  have HIA := fun w => L1.inRange_any ver 0 1000 w
  rw [hba] at HIA ⊢
  replace HIA := Lib.hid HIA
  clear hbn hba
  have S1 := Lib.hid (show Sl.Sep w (w.alloc (.cells #[.string name, .int .i64 ver, .slice sa N sc, .slice ua M uc] 31)) [L4.boxR w.heap.size 31 #[.string name, .int .i64 ver, .slice sa N sc, .slice ua M uc]] from L4.push_box (Sl.Sep.start w) 31 #[.string name, .int .i64 ver, .slice sa N sc, .slice ua M uc] (w.heap.size) (by simp))
  obtain ⟨wa, hwa⟩ : ∃ w_, w_ = (w.alloc (.cells #[.string name, .int .i64 ver, .slice sa N sc, .slice ua M uc] 31)) := ⟨_, rfl⟩
  rw [← hwa] at S1
  go_enter Try.func10, Try.ntmps10
  go_upto_region 1 with fail
  rw [← hwa]
  clear hwa
  have hh := Bag.cs4 S1.out 0 rfl
  have f0 := hh.1; have f1 := hh.2.1; have f2 := hh.2.2.1; have f3 := hh.2.2.2; clear hh
  cases bn with
  | false =>
    go_wp2_with fail
    go_at_call 26
    refine (HIN.out _).mono ?_
    rintro e w1 ⟨rfl, rfl⟩
    go_wp2_with fail
    go_ret
    exact ⟨rfl, S1.out.old⟩
  | true =>
    cases ba with
    | false =>
      go_wp2_with fail
      go_at_call 26
      refine (HIN.out _).mono ?_
      rintro e w1 ⟨rfl, rfl⟩
      go_wp2_with fail
      go_at_call 27
      refine (HIA.out _).mono ?_
      rintro e w2 ⟨rfl, rfl⟩
      go_wp2_with fail
      go_ret
      exact ⟨rfl, S1.out.old⟩
    | true =>
      cases vs with
      | false =>
        go_wp2_with fail
        go_at_call 26
        refine (HIN.out _).mono ?_
        rintro e w1 ⟨rfl, rfl⟩
        go_wp2_with fail
        go_at_call 27
        refine (HIA.out _).mono ?_
        rintro e w2 ⟨rfl, rfl⟩
        go_wp2_with fail
        go_at_call 28
        refine (HVS.out _ S1.out.old).mono ?_
        rintro e w3 ⟨rfl, hb⟩
        clear f0 f1 f2 f3
        have S2 := Lib.hid (S1.out.keep hb)
        clear S1
        clear hb
        have hh := Bag.cs4 S2.out 0 rfl
        have f0 := hh.1; have f1 := hh.2.1; have f2 := hh.2.2.1; have f3 := hh.2.2.2; clear hh
        go_wp2_with fail
        go_ret
        exact ⟨rfl, S2.out.old⟩
      | true =>
        go_wp2_with fail
        go_at_call 26
        refine (HIN.out _).mono ?_
        rintro e w1 ⟨rfl, rfl⟩
        go_wp2_with fail
        go_at_call 27
        refine (HIA.out _).mono ?_
        rintro e w2 ⟨rfl, rfl⟩
        go_wp2_with fail
        go_at_call 28
        refine (HVS.out _ S1.out.old).mono ?_
        rintro e w3 ⟨rfl, hb⟩
        clear f0 f1 f2 f3
        have S2 := Lib.hid (S1.out.keep hb)
        clear S1
        clear hb
        have hh := Bag.cs4 S2.out 0 rfl
        have f0 := hh.1; have f1 := hh.2.1; have f2 := hh.2.2.1; have f3 := hh.2.2.2; clear hh
        go_wp2_with fail
        go_at_call 29
        refine (HVI.out _ S2.out.old).mono ?_
        rintro e w4 ⟨rfl, hb⟩
        clear f0 f1 f2 f3
        have S3 := Lib.hid (S2.out.keep hb)
        clear S2
        clear hb
        have hh := Bag.cs4 S3.out 0 rfl
        have f0 := hh.1; have f1 := hh.2.1; have f2 := hh.2.2.1; have f3 := hh.2.2.2; clear hh
        go_wp2_with fail
        go_ret
        exact ⟨by simp, S3.out.old⟩
end Go.Proofs.Ytboefioalkjdaaa.L8

