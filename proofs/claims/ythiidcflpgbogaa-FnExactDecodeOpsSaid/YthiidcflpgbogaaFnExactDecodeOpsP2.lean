/-
  What the law FnExactDecodeOps needs, laid by my program lawpack.py, part 2: the texts VField, VRecord, VOp, L9Num, VzOp, L5Dm, L5Rd, L5Rd2, L5Dec, L4Dec, L6Sx, L9Enc, L9Rm, VzNum, L9Fz, L9Cv, L9Sa, L9Sc, L9Sd, L4Im0, L4Im1, L5Ia, L5Ib, one behind the other; each begins with its own words.
-/
import Derived.Test.YthiidcflpgbogaaFnExactDecodeOpsP1
set_option linter.unusedSimpArgs false
set_option linter.unusedVariables false
set_option maxRecDepth 100000
set_option linter.unusedSimpArgs false
namespace Go.Proofs.Ythiidcflpgbogaa.V
open Go.ChangeShapes Go.WideShapes Go.ChangeAt Go.RowKit Mem Sl Sv Bag
open L5 (markT)
def co_Field (z : L5.F) : L5.F := z
def coS_Field (xs : List L5.F) : List L5.F := xs
theorem coS_Field_eq (xs : List L5.F) : coS_Field xs = xs.map co_Field := (List.map_id' xs).symm
def cl_Field (z : L5.F) : List Value := [.string z.name, .int .i64 z.n]
def vv_Field (z : L5.F) : Value := .agg #[.string z.name, .int .i64 z.n]
def rw_Field (z : L5.F) : List RowS := []
def wt_Field (c : L5.F) : Nat := c.name.size
theorem cl_Field_len (z : L5.F) : (cl_Field z).length = 2 := rfl
def row_Field (a : Option Addr) (c : Nat) (xs : List L5.F) : RowS := ⟨92, 2, a, c, xs.length, xs.flatMap cl_Field⟩
def rws_Field (_ : List L5.F) : List RowS := []
theorem rws_Field_eq (xs : List L5.F) : rws_Field xs = xs.flatMap rw_Field := by
 show [] = _
 induction xs with
 | nil => rfl
 | cons x xs ih => rw [List.flatMap_cons, ← ih]; rfl
def rs_Field (a : Option Addr) (c : Nat) (xs : List L5.F) : List RowS := row_Field a c xs :: rws_Field xs
theorem rws_Field_app (xs ys : List L5.F) : rws_Field (xs ++ ys) = rws_Field xs ++ rws_Field ys := by rw [rws_Field_eq, rws_Field_eq, rws_Field_eq, List.flatMap_append]
section
variable {H : Type} {enc : TypeId × Value → H} {W : World} {b : Nat} {sp : Nat → Bool} {hd : Bool}
end
set_option maxHeartbeats 4000000 in
theorem eq_Field (z : L5.F) (w : World) : Calls Try.prog 94 #[vv_Field z, vv_Field z] w fun e w' => e = .returned (.bool true) ∧ Below w.heap.size w w' := by
 unfold vv_Field
 have S1 := Lib.hid (show Sl.Sep w _ [_, _] from L4.push_box (L4.push_box (Sl.Sep.start w) 92 #[.string z.name, .int .i64 z.n] (w.heap.size) (by simp)) 92 #[.string z.name, .int .i64 z.n] (w.heap.size + 1) (by simp))
 obtain ⟨wa, hwa⟩ : ∃ u, u = ((w.alloc (.cells #[.string z.name, .int .i64 z.n] 92)).alloc (.cells #[.string z.name, .int .i64 z.n] 92)) := ⟨_, rfl⟩
 rw [← hwa] at S1
 go_enter Try.func94, Try.ntmps94
 go_upto_region 1 with fail
 rw [← hwa]
 clear hwa
 obtain ⟨f0, f1⟩ := Bag.cs2 S1.out 0 rfl
 obtain ⟨f2, f3⟩ := Bag.cs2 S1.out 1 rfl
 go_wp2_with fail
 go_ret
 exact ⟨rfl, S1.out.old⟩
set_option maxHeartbeats 4000000 in
theorem eq_FieldS (a a2 : Option Addr) (c c2 : Nat) (xs xs2 : List L5.F) (hc : coS_Field xs = coS_Field xs2) (hf : wsum wt_Field (coS_Field xs) ≤ 1125899906842624) (w : World) (hr : Reads w w.heap.size a (xs.flatMap cl_Field)) (hx : RowsRd w w.heap.size (rws_Field xs)) (hr2 : Reads w w.heap.size a2 (xs2.flatMap cl_Field)) (hx2 : RowsRd w w.heap.size (rws_Field xs2)) :
  Calls Try.prog 76 #[.slice a xs.length c, .slice a2 xs2.length c2] w fun e w' => e = .returned (.bool true) ∧ Below w.heap.size w w' := by
 have hlen : xs2.length = xs.length := by have h := congrArg List.length hc; rw [coS_Field_eq, coS_Field_eq, List.length_map, List.length_map] at h; exact h.symm
 have hl : xs.length ≤ 1125899906842624 := by have := wsum_len wt_Field (coS_Field xs); rw [coS_Field_eq, List.length_map] at this; rw [coS_Field_eq] at hf; omega
 have HR := Lib.hid (fun w' (h : Below w.heap.size w w') => hr.below h)
 have HR2 := Lib.hid (fun w' (h : Below w.heap.size w w') => hr2.below h)
 have HX := Lib.hid (fun w' (h : Below w.heap.size w w') => (hx.below h).more h.size)
 have HX2 := Lib.hid (fun w' (h : Below w.heap.size w w') => (hx2.below h).more h.size)
 rw [coS_Field_eq] at hf
 have HF := Lib.hid hf
 have HS := Lib.hid (show xs.map co_Field = xs2.map co_Field from by rw [← coS_Field_eq, ← coS_Field_eq]; exact hc)
 obtain ⟨N, hN⟩ : ∃ n, n = xs.length := ⟨_, rfl⟩
 rw [hlen, ← hN]
 rw [← hN] at hl
 have hl' : (N : Int) ≤ 1125899906842624 := by omega
 have HN := Lib.hid hN
 clear hN hr hr2 hx hx2 hf hc hlen
 have S1 := Lib.hid (show Sl.Sep w w [] from Sl.Sep.start w)
 go_enter Try.func76, Try.ntmps76
 go_wp2_with fail
 go_loopw [5] (fun i wr => ∃ k : Nat, k ≤ N ∧ i = .int .i64 k ∧ Hid (Sl.Sep w wr [])) (fun i _ => N - (intOf i).toNat)
 case atStart => exact ⟨0, Nat.zero_le _, rfl, S1.out⟩
 case round =>
  obtain ⟨k, hk, rfl, hrel⟩ := hrel
  have S2 := Lib.hid hrel.out
  clear hrel S1
  by_cases hlt : (k : Int) < (N : Int)
  ·
   skip
   have hkl : k < xs.length := by have := HN.out; omega
   obtain ⟨x, hx⟩ : ∃ x, xs[k]? = some x := ⟨_, List.getElem?_eq_getElem hkl⟩
   obtain ⟨ad, e'⟩ := el_some cl_Field_len (by decide) (HR.out _ S2.out.old) (List.getElem?_eq_some_iff.1 hx).1
   subst e'
   have HK := Lib.hid (fun w' (h : Below w.heap.size w w') => el2 cl_Field_len (HR.out _ h) hx rfl)
   obtain ⟨x2, hx2, hcx⟩ := map_same HS.out hx
   obtain ⟨ad2, e'⟩ := el_some cl_Field_len (by decide) (HR2.out _ S2.out.old) (List.getElem?_eq_some_iff.1 hx2).1
   subst e'
   have HK2 := Lib.hid (fun w' (h : Below w.heap.size w w') => el2 cl_Field_len (HR2.out _ h) hx2 rfl)
   have hxx : x2 = x := hcx
   rw [hxx] at HK2
   have HEQ := Lib.hid (fun w' => eq_Field x w')
   clear hcx hxx
   try dsimp only [vv_Field] at HEQ
   clear hx hx2
   go_upto_region 6 with fail
   refine wp_region_held_drew (S := (fun w' => (w'.cell? (ad.add (k * 2)) = some (.string x.name) ∧ w'.cell? (⟨(ad.add (k * 2)).block, (ad.add (k * 2)).off + 1, none⟩) = some (.int .i64 x.n)) ∧ (w'.cell? (ad2.add (k * 2)) = some (.string x.name) ∧ w'.cell? (⟨(ad2.add (k * 2)).block, (ad2.add (k * 2)).off + 1, none⟩) = some (.int .i64 x.n)))) (by kernel_rfl) ⟨HK.out _ (Bag.drew1 S2.out).old, HK2.out _ (Bag.drew1 S2.out).old⟩ (fun hS => ?_)
   have S3 := Lib.hid (Bag.drew1 S2.out)
   clear S2
   generalize World.drew _ = w1 at hS S3 ⊢
   refine tk 0 rfl ?_
   try simp only [zp0, zp1, zp2, zp3, zp4]
   refine tk 1 rfl ?_
   try simp only [zp0, zp1, zp2, zp3, zp4]
   refine tk 2 rfl ?_
   try simp only [zp0, zp1, zp2, zp3, zp4]
   refine tk 3 rfl ?_
   try simp only [zp0, zp1, zp2, zp3, zp4]
   refine tk 4 rfl ?_
   try simp only [zp0, zp1, zp2, zp3, zp4]
   refine tk 5 rfl ?_
   try simp only [zp0, zp1, zp2, zp3, zp4]
   refine tk 6 rfl ?_
   try simp only [zp0, zp1, zp2, zp3, zp4]
   refine tk 7 rfl ?_
   try simp only [zp0, zp1, zp2, zp3, zp4]
   refine Reg.one_op (i := 8) rfl (by kernel_rfl) (fun K hK => ?_)
   go_simp
   go_at_call 94
   refine (HEQ.out _).mono ?_
   rintro e w2 ⟨rfl, hb⟩
   have S4 := Lib.hid (S3.out.keep hb)
   clear S3
   clear hb
   go_wp2_with fail
   refine hK.out _ _ ⟨HK.out _ S4.out.old, HK2.out _ S4.out.old⟩ (fun hS => ?_)
   clear hK K
   try simp only [zp0, zp1, zp2, zp3, zp4]
   refine tk 9 rfl ?_
   try simp only [zp0, zp1, zp2, zp3, zp4]
   refine wpAnyH_done (by kernel_rfl) ?_ _
   obtain ⟨f0, f1⟩ := HK.out _ S4.out.old
   obtain ⟨f2, f3⟩ := HK2.out _ S4.out.old
   go_wp2_with fail
   go_roundw
   case rel => exact ⟨k + 1, by omega, by go_num, S4.out⟩
   case measure => simp [intOf]; omega
  ·
   skip
   go_wp2_with fail
   go_ret
   exact ⟨rfl, S2.out.old⟩
def em_Field (k : Int) (z : L5.F) : L5.F := ⟨markT k, (k + 1)⟩
def cnt_Field (z : L5.F) : Nat := 1 + (1)
theorem cntS_Field (z : L5.F) : cnt_Field z ≤ 64 * (wt_Field (co_Field z) + 1) := by
 have hw : wt_Field (co_Field z) = z.name.size := by rfl
 unfold cnt_Field
 omega
theorem em_Field_fp (k : Int) (z : L5.F) : (rw_Field (em_Field k z)).flatMap RowS.fp = (rw_Field z).flatMap RowS.fp := rfl
theorem rs_Field_fp (a : Option Addr) (c : Nat) (xs : List L5.F) (k : Int) : (rs_Field a c (mks em_Field cnt_Field k xs)).flatMap RowS.fp = (rs_Field a c xs).flatMap RowS.fp := by
 unfold rs_Field
 rw [List.flatMap_cons, List.flatMap_cons, rws_Field_eq, rws_Field_eq, mks_fp em_Field_fp]
 congr 1
 unfold row_Field RowS.fp
 cases a <;> rfl
set_option maxHeartbeats 8000000 in
theorem mark_FieldS_sep (a : Option Addr) (c : Nat) (xs : List L5.F) (k : Int) (W w : World) (S : Sl.Sep W w [bag (rs_Field a c xs), Run.restL W w (bag (rs_Field a c xs)).fp]) (hf : wsum wt_Field (coS_Field xs) ≤ 1125899906842624) (hk0 : 0 < k) (hk1 : k + (fsum cnt_Field xs : Int) ≤ 2305843009213693952) :
  Calls Try.prog 53 #[.slice a xs.length c, .int .i64 k] w fun e w' => e = .returned (.int .i64 (k + (fsum cnt_Field xs : Int))) ∧ Sl.Sep W w' [bag (rs_Field a c (mks em_Field cnt_Field k xs)), Run.restL W w (bag (rs_Field a c xs)).fp] := by
 have HF := Lib.hid hf
 have hl : xs.length ≤ 1125899906842624 := by have := wsum_len wt_Field (coS_Field xs); rw [coS_Field_eq, List.length_map] at this; rw [coS_Field_eq] at hf; omega
 clear hf
 obtain ⟨fps, hfps⟩ : ∃ f, f = (bag (rs_Field a c xs)).fp := ⟨_, rfl⟩
 rw [← hfps] at S ⊢
 clear hfps
 rcases (S.is 0 _ rfl).own (row_Field a c xs) (List.mem_cons_self ..) |>.form with ⟨ha, hn0, -, hc0⟩ | ⟨g, hg, -, -, hnc, -⟩
 ·
  have ha' : a = none := ha
  have hc' : c = 0 := hc0
  have hx : xs = [] := List.eq_nil_of_length_eq_zero hn0
  subst hx
  have H := Lib.hid S
  clear S HF hk1
  go_enter Try.func53, Try.ntmps53
  go_wp2_with fail
  refine wp_loop_rounds 1 ?_
  rw [rounds_succ]
  go_wp2_with fail
  go_ret
  exact ⟨by rw [fsum_nil]; first | rfl | (refine congrArg (fun i => Ending.returned (.int .i64 i)) ?_; omega), H.out⟩
 have hg' : a = some ⟨g, 0, none⟩ := hg
 subst hg'
 obtain ⟨N, hN⟩ : ∃ n, n = xs.length := ⟨_, rfl⟩
 rw [← hN] at hl ⊢
 have hl' : (N : Int) ≤ 1125899906842624 := by omega
 have HN := Lib.hid hN
 have HK1 := Lib.hid hk1
 have hk2 : k ≤ 2305843009213693952 := by omega
 have S1 := Lib.hid S
 clear hg hN S hnc hk1
 have S2 := Lib.hid (show Sl.Sep W _ [Bag.bag ([row_Field (some ⟨g, 0, none⟩) c xs] ++ rws_Field xs), Run.restL W w fps] from S1.out)
 clear S1
 have S3 := Lib.hid (show Sl.Sep W _ [Bag.bag ([row_Field (some ⟨g, 0, none⟩) c xs]), _, Bag.bag (rws_Field xs)] from Bag.bag_split S2.out 0 rfl)
 clear S2
 have S4 := Lib.hid (show Sl.Sep W _ [Sv.ownV 92 2 (some ⟨g, 0, none⟩) c N ((mks em_Field cnt_Field k [] ++ xs.drop 0).flatMap cl_Field), _, _] from (by have h := Bag.one_of_bag S3.out 0 (r := row_Field (some ⟨g, 0, none⟩) c xs) rfl; unfold RowS.res row_Field at h; dsimp only at h; rw [← HN.out] at h; exact h))
 clear S3
 have S5 := Lib.hid (show Sl.Sep W _ [Sv.ownV 92 2 (some ⟨g, 0, none⟩) c N ((mks em_Field cnt_Field k [] ++ xs.drop 0).flatMap cl_Field), Bag.bag (rws_Field (mks em_Field cnt_Field k []) ++ rws_Field (xs.drop 0)), Run.restL W w fps] from Bag.take (by have h := S4.out; rw [show rws_Field xs = rws_Field (mks em_Field cnt_Field k []) ++ rws_Field (xs.drop 0) from by rw [← rws_Field_app]; rfl] at h; exact h) [0, 2, 1] (by rfl) (by decide))
 clear S4
 go_enter Try.func53, Try.ntmps53
 go_wp2_with fail
 go_loopw [1, 5] (fun v i wr => ∃ (j : Nat) (m : Int), j ≤ N ∧ i = .int .i64 j ∧ v = .int .i64 m ∧ k ≤ m ∧ m ≤ 2305843009213693952 ∧ Hid (m = k + (fsum cnt_Field (xs.take j) : Int) ∧ Sl.Sep W wr [Sv.ownV 92 2 (some ⟨g, 0, none⟩) c N (((mks em_Field cnt_Field k (xs.take j)) ++ xs.drop j).flatMap cl_Field), Bag.bag (rws_Field (mks em_Field cnt_Field k (xs.take j)) ++ rws_Field (xs.drop j)), Run.restL W w fps])) (fun _ i _ => N - (intOf i).toNat)
 case atStart => exact ⟨0, k, Nat.zero_le _, rfl, rfl, by omega, by omega, And.intro (by rw [List.take_zero, fsum_nil]; omega) S5.out⟩
 case round =>
  obtain ⟨j, m, hj, rfl, rfl, hm0, hm1, hrel⟩ := hrel
  have HM := Lib.hid hrel.out.1
  have S6 := Lib.hid hrel.out.2
  clear hrel S5
  by_cases hlt : (j : Int) < (N : Int)
  ·
   skip
   have hjl : j < xs.length := by have := HN.out; omega
   obtain ⟨x, hx⟩ : ∃ x, xs[j]? = some x := ⟨_, List.getElem?_eq_getElem hjl⟩
   have HFT := Lib.hid (fsum_take (f := cnt_Field) hx)
   have hfa := fsum_at (f := cnt_Field) hx
   have hcx : cnt_Field x = 1 + (1) := rfl
   have HMN := Lib.hid (show (mks em_Field cnt_Field k (xs.take (j + 1))) = (mks em_Field cnt_Field k (xs.take j)) ++ [em_Field m x] from by rw [mks_next em_Field cnt_Field k hx, ← HM.out])
   have HDR := Lib.hid (drop_next hx)
   have hwm : wt_Field (co_Field x) + 1 ≤ 1125899906842624 := by have h1 := wsum_mem (f := wt_Field) (List.mem_map.2 ⟨x, List.mem_of_getElem? hx, rfl⟩ : co_Field x ∈ xs.map co_Field); have h2 := HF.out; rw [coS_Field_eq] at h2; omega
   clear hwm hx
   have hmc : m + (cnt_Field x : Int) ≤ 2305843009213693952 := by have := HM.out; have := HK1.out; omega
   have HCX := Lib.hid hcx
   have hcx' : (cnt_Field x : Int) = 1 + 1 := by omega
   rw [hcx'] at hmc
   clear hcx' hcx hfa
   obtain ⟨m1', hm⟩ : ∃ u : Int, u = m + 1 := ⟨_, rfl⟩
   have bd0 : 0 < m1' ∧ m1' ≤ 2305843009213693952 := by omega
   have bl0 : m ≤ m1' := by omega
   have HM1 := Lib.hid hm
   have hme1 := hm
   clear hm
   obtain ⟨m2', hm⟩ : ∃ u : Int, u = m1' + 1 := ⟨_, rfl⟩
   have bd1 : 0 < m2' ∧ m2' ≤ 2305843009213693952 := by omega
   have bl1 : m1' ≤ m2' := by omega
   have HM2 := Lib.hid hm
   have hme2 := hm
   clear hm
   clear hmc hme1 hme2
   have HDL := Lib.hid (show ((mks em_Field cnt_Field k (xs.take j)).flatMap cl_Field).length = j * 2 by rw [flat_len cl_Field_len, mks_len, List.length_take, Nat.min_eq_left (by omega)])
   obtain ⟨R0, hR0⟩ : ∃ R0, R0 = (xs.drop (j + 1)).flatMap cl_Field := ⟨_, rfl⟩
   obtain ⟨D0, hD0⟩ : ∃ D0, D0 = (mks em_Field cnt_Field k (xs.take j)).flatMap cl_Field := ⟨_, rfl⟩
   have HR0 := Lib.hid hR0
   have HD0 := Lib.hid hD0
   rw [← hD0] at HDL
   clear hR0 hD0
   have S7 := Lib.hid (show Sl.Sep W _ [Sv.ownV 92 2 (some ⟨g, 0, none⟩) c N (D0 ++ (.string x.name :: .int .i64 x.n :: R0)), Bag.bag (rws_Field (mks em_Field cnt_Field k (xs.take j)) ++ rws_Field (xs.drop j)), Run.restL W w fps] from (by have h := S6.out; rw [show ((mks em_Field cnt_Field k (xs.take j)) ++ xs.drop j).flatMap cl_Field = D0 ++ (.string x.name :: .int .i64 x.n :: R0) from by rw [List.flatMap_append, HDR.out, List.flatMap_cons, ← HR0.out, ← HD0.out]; rfl] at h; exact h))
   clear S6
   have HMT := Lib.hid (fun w' => L5.markText_any m (by omega) (by omega) w')
   have q0 : World.cell? wr ⟨g, j * 2, none⟩ = some (.string x.name) := by rw [(Sv.own_at S7.out 0 rfl).cell (j * 2) (by rw [List.length_append, HDL.out]; simp <;> omega)]; simp [List.getElem_append, HDL.out]
   have z0 := (Sv.own_at S7.out 0 rfl).free (j * 2)
   go_wp2_with fail
   go_at_call 52
   refine (HMT.out _).mono ?_
   rintro e w1 ⟨rfl, hb⟩
   clear q0 z0
   have S8 := Lib.hid (S7.out.keep hb)
   clear S7
   clear hb
   clear HMT
   have q0 : World.cell? w1 ⟨g, j * 2, none⟩ = some (.string x.name) := by rw [(Sv.own_at S8.out 0 rfl).cell (j * 2) (by rw [List.length_append, HDL.out]; simp <;> omega)]; simp [List.getElem_append, HDL.out]
   have z0 := (Sv.own_at S8.out 0 rfl).free (j * 2)
   go_upto_region 6 with fail
   try simp only [← HM1.out]
   clear q0 z0
   have HOV := Lib.hid (show Run.over (D0 ++ (.string x.name :: .int .i64 x.n :: R0)) (j * 2) [.string (markT m)] = D0 ++ (.string (markT m) :: .int .i64 x.n :: R0) from by rw [show D0 ++ (.string x.name :: .int .i64 x.n :: R0) = D0 ++ ([.string x.name] ++ (.int .i64 x.n :: R0)) from by simp, Run.over_mid D0 (.int .i64 x.n :: R0) [.string (markT m)] [.string x.name] (j * 2) (by simp [HDL.out]) rfl]; simp)
   have S9 := Lib.hid (show Sl.Sep W (w1.setCell ⟨g, j * 2, none⟩ (.string (markT m))) [Sv.ownV 92 2 (some ⟨g, 0, none⟩) c N (D0 ++ (.string (markT m) :: .int .i64 x.n :: R0)), Bag.bag (rws_Field (mks em_Field cnt_Field k (xs.take j)) ++ rws_Field (xs.drop j)), Run.restL W w fps] from (by have h := Run.put_run S8.out 0 rfl (j * 2) [.string (markT m)] (by rw [List.length_append, HDL.out]; simp <;> omega); rw [HOV.out] at h; exact h))
   clear S8
   clear HOV
   generalize (w1.setCell ⟨g, j * 2, none⟩ (.string (markT m))) = w2 at S9 ⊢
   have q1 : World.cell? w2 ⟨g, j * 2 + 1, none⟩ = some (.int .i64 x.n) := by rw [(Sv.own_at S9.out 0 rfl).cell (j * 2 + 1) (by rw [List.length_append, HDL.out]; simp <;> omega)]; simp [List.getElem_append, HDL.out]
   have z1 := (Sv.own_at S9.out 0 rfl).free (j * 2 + 1)
   go_wp2_with fail
   try simp only [← HM2.out]
   clear q1 z1
   have HOV := Lib.hid (show Run.over (D0 ++ (.string (markT m) :: .int .i64 x.n :: R0)) (j * 2 + 1) [.int .i64 m1'] = D0 ++ (.string (markT m) :: .int .i64 m1' :: R0) from by rw [show D0 ++ (.string (markT m) :: .int .i64 x.n :: R0) = (D0 ++ ([.string (markT m)] : List Value)) ++ ([.int .i64 x.n] ++ (R0)) from by simp, Run.over_mid (D0 ++ ([.string (markT m)] : List Value)) (R0) [.int .i64 m1'] [.int .i64 x.n] (j * 2 + 1) (by simp [HDL.out]) rfl]; simp)
   have S10 := Lib.hid (show Sl.Sep W (w2.setCell ⟨g, j * 2 + 1, none⟩ (.int .i64 m1')) [Sv.ownV 92 2 (some ⟨g, 0, none⟩) c N (D0 ++ (.string (markT m) :: .int .i64 m1' :: R0)), _, _] from (by have h := Run.put_run S9.out 0 rfl (j * 2 + 1) [.int .i64 m1'] (by rw [List.length_append, HDL.out]; simp <;> omega); rw [HOV.out] at h; exact h))
   clear S9
   clear HOV
   generalize (w2.setCell ⟨g, j * 2 + 1, none⟩ (.int .i64 m1')) = w3 at S10 ⊢
   have S11 := Lib.hid (show Sl.Sep W _ [_, Bag.bag (rws_Field (mks em_Field cnt_Field k (xs.take (j + 1))) ++ rws_Field (xs.drop (j + 1))), _] from S10.out)
   clear S10
   have HROW := Lib.hid (show ((mks em_Field cnt_Field k (xs.take (j + 1))) ++ xs.drop (j + 1)).flatMap cl_Field = D0 ++ (.string (markT m) :: .int .i64 m1' :: R0) from by rw [HMN.out, List.flatMap_append, List.flatMap_append, ← HR0.out, ← HD0.out, List.append_assoc, List.flatMap_cons, List.flatMap_nil, List.append_nil]; simp only [HM2.out, HM1.out]; unfold cl_Field em_Field; rfl)
   have S12 := Lib.hid (show Sl.Sep W _ [Sv.ownV 92 2 (some ⟨g, 0, none⟩) c N (((mks em_Field cnt_Field k (xs.take (j + 1))) ++ xs.drop (j + 1)).flatMap cl_Field), _, _] from (by rw [HROW.out]; exact S11.out))
   clear S11
   go_roundw
   case rel => exact ⟨j + 1, m2', by omega, by go_num, by first | rfl | go_num, by omega, by omega, And.intro (by have h1 := HFT.out; have h2 := HCX.out; have h3 := HM.out; have := HM1.out; have := HM2.out; omega) S12.out⟩
   case measure => simp [intOf]; omega
  ·
   skip
   obtain rfl : j = N := by omega
   have hT : xs.take j = xs := List.take_of_length_le (by have := HN.out; omega)
   have hD : xs.drop j = [] := List.drop_of_length_le (by have := HN.out; omega)
   have HT := Lib.hid hT
   have HD := Lib.hid hD
   clear hT hD
   have S7 := Lib.hid (show Sl.Sep W _ [Sv.ownV 92 2 (some ⟨g, 0, none⟩) c j ((mks em_Field cnt_Field k xs).flatMap cl_Field), Bag.bag (rws_Field (mks em_Field cnt_Field k xs)), Run.restL W w fps] from (by have h := S6.out; rw [HT.out, HD.out, List.append_nil, ← rws_Field_app, List.append_nil] at h; exact h))
   clear S6
   have S8 := Lib.hid (show Sl.Sep W _ [Bag.bag ([row_Field (some ⟨g, 0, none⟩) c (mks em_Field cnt_Field k xs)]), _, _] from Bag.bag_of_one S7.out 0 (r := row_Field (some ⟨g, 0, none⟩) c (mks em_Field cnt_Field k xs)) (by unfold RowS.res row_Field; dsimp only; rw [mks_len, ← HN.out]; rfl))
   clear S7
   have S9 := Lib.hid (show Sl.Sep W _ [Bag.bag ([row_Field (some ⟨g, 0, none⟩) c (mks em_Field cnt_Field k xs)] ++ (rws_Field (mks em_Field cnt_Field k xs))), Bag.bag ([]), _] from Bag.bag_join S8.out 0 1 (by decide) rfl rfl)
   clear S8
   have S10 := Lib.hid (show Sl.Sep W _ [_, _] from Bag.take S9.out [0, 2] (by rfl) (by decide))
   clear S9
   go_wp2_with fail
   go_ret
   exact ⟨by have h := HM.out; rw [HT.out] at h; rw [← h] <;> rfl, S10.out⟩
theorem mark_FieldS {W w : World} {rs : List Res} (h : Sl.Sep W w rs) (i : Nat) {a : Option Addr} {c : Nat} {xs : List L5.F} (hi : rs[i]? = some (bag (rs_Field a c xs))) (k : Int) (hf : wsum wt_Field (coS_Field xs) ≤ 1125899906842624) (hk0 : 0 < k) (hk1 : k + (fsum cnt_Field xs : Int) ≤ 2305843009213693952) :
  Calls Try.prog 53 #[.slice a xs.length c, .int .i64 k] w fun e w' => e = .returned (.int .i64 (k + (fsum cnt_Field xs : Int))) ∧ Sl.Sep W w' (rs.set i (bag (rs_Field a c (mks em_Field cnt_Field k xs)))) :=
 (mark_FieldS_sep a c xs k W w (Run.restL_start h i hi) hf hk0 hk1).mono fun _ _ ⟨he, hs⟩ => ⟨he, Run.restL_back h i hi hs (rs_Field_fp a c xs k)⟩
set_option maxHeartbeats 8000000 in
theorem held_FieldS (a : Option Addr) (c : Nat) (xs : List L5.F) (k : Int) (hf : wsum wt_Field (coS_Field xs) ≤ 1125899906842624) (hk0 : 0 < k) (hk1 : k + (fsum cnt_Field xs : Int) ≤ 2305843009213693952) (w : World) (hr : Reads w w.heap.size a ((mks em_Field cnt_Field k xs).flatMap cl_Field)) (hx : RowsRd w w.heap.size (rws_Field (mks em_Field cnt_Field k xs))) :
  Calls Try.prog 65 #[.slice a xs.length c, .int .i64 k] w fun e w' => e = .returned (.int .i64 (k + (fsum cnt_Field xs : Int))) ∧ Below w.heap.size w w' := by
 have HF := Lib.hid hf
 have hl : xs.length ≤ 1125899906842624 := by have := wsum_len wt_Field (coS_Field xs); rw [coS_Field_eq, List.length_map] at this; rw [coS_Field_eq] at hf; omega
 clear hf
 have HR := Lib.hid (fun w' (h : Below w.heap.size w w') => hr.below h)
 have HX := Lib.hid (fun w' (h : Below w.heap.size w w') => (hx.below h).more h.size)
 obtain ⟨N, hN⟩ : ∃ n, n = xs.length := ⟨_, rfl⟩
 rw [← hN] at hl ⊢
 have hl' : (N : Int) ≤ 1125899906842624 := by omega
 have HN := Lib.hid hN
 have HK1 := Lib.hid hk1
 have hk2 : k ≤ 2305843009213693952 := by omega
 clear hN hr hx hk1
 have S1 := Lib.hid (show Sl.Sep w w [] from Sl.Sep.start w)
 go_enter Try.func65, Try.ntmps65
 go_wp2_with fail
 go_loopw [1, 5] (fun v i wr => ∃ (j : Nat) (m : Int), j ≤ N ∧ i = .int .i64 j ∧ v = .int .i64 m ∧ k ≤ m ∧ m ≤ 2305843009213693952 ∧ Hid (m = k + (fsum cnt_Field (xs.take j) : Int) ∧ Sl.Sep w wr [])) (fun _ i _ => N - (intOf i).toNat)
 case atStart => exact ⟨0, k, Nat.zero_le _, rfl, rfl, by omega, by omega, And.intro (by rw [List.take_zero, fsum_nil]; omega) S1.out⟩
 case round =>
  obtain ⟨j, m, hj, rfl, rfl, hm0, hm1, hrel⟩ := hrel
  have HM := Lib.hid hrel.out.1
  have S2 := Lib.hid hrel.out.2
  clear hrel S1
  by_cases hlt : (j : Int) < (N : Int)
  ·
   skip
   have hjl : j < xs.length := by have := HN.out; omega
   obtain ⟨x, hx⟩ : ∃ x, xs[j]? = some x := ⟨_, List.getElem?_eq_getElem hjl⟩
   have HFT := Lib.hid (fsum_take (f := cnt_Field) hx)
   have hfa := fsum_at (f := cnt_Field) hx
   have hcx : cnt_Field x = 1 + (1) := rfl
   have hmx : (mks em_Field cnt_Field k xs)[j]? = some (em_Field m x) := by rw [mks_at em_Field cnt_Field k hx, ← HM.out]
   obtain ⟨ad, e'⟩ := el_some cl_Field_len (by decide) (HR.out _ S2.out.old) (List.getElem?_eq_some_iff.1 hmx).1
   subst e'
   have HK := fun w' (h : Below w.heap.size w w') => el2 cl_Field_len (HR.out _ h) hmx rfl
   dsimp only [em_Field] at HK
   have hwm : wt_Field (co_Field x) + 1 ≤ 1125899906842624 := by have h1 := wsum_mem (f := wt_Field) (List.mem_map.2 ⟨x, List.mem_of_getElem? hx, rfl⟩ : co_Field x ∈ xs.map co_Field); have h2 := HF.out; rw [coS_Field_eq] at h2; omega
   clear hwm
   have hmc : m + (cnt_Field x : Int) ≤ 2305843009213693952 := by have := HM.out; have := HK1.out; omega
   have HCX := Lib.hid hcx
   have hcx' : (cnt_Field x : Int) = 1 + 1 := by omega
   rw [hcx'] at hmc
   clear hcx' hcx hfa
   obtain ⟨m1', hm⟩ : ∃ u : Int, u = m + 1 := ⟨_, rfl⟩
   have bd0 : 0 < m1' ∧ m1' ≤ 2305843009213693952 := by omega
   have bl0 : m ≤ m1' := by omega
   have HM1 := Lib.hid hm
   have hme1 := hm
   clear hm
   obtain ⟨m2', hm⟩ : ∃ u : Int, u = m1' + 1 := ⟨_, rfl⟩
   have bd1 : 0 < m2' ∧ m2' ≤ 2305843009213693952 := by omega
   have bl1 : m1' ≤ m2' := by omega
   have HM2 := Lib.hid hm
   have hme2 := hm
   clear hm
   try simp only [mks_len] at HK
   try simp only [← hme1] at HK 
   try simp only [← hme2] at HK 
   obtain ⟨tt0, htt⟩ : ∃ t, markT m = t := ⟨_, rfl⟩
   have HMT0 := fun w' => L5.markText_any m (by omega) (by omega) w'
   rw [htt] at HMT0
   simp only [htt] at HK
   replace HMT0 := Lib.hid HMT0
   clear htt
   replace HK := Lib.hid HK
   clear hmx hx hme1 hme2 hmc
   obtain ⟨f0, f1⟩ := HK.out _ S2.out.old
   go_upto_region 4 with fail
   clear f0 f1
   refine wp_region_held_drew (S := (fun w' => (w'.cell? (ad.add (j * 2)) = some (.string tt0) ∧ w'.cell? (⟨(ad.add (j * 2)).block, (ad.add (j * 2)).off + 1, none⟩) = some (.int .i64 m1')))) (by kernel_rfl) (HK.out _ (Bag.drew1 S2.out).old) (fun hS => ?_)
   have S3 := Lib.hid (Bag.drew1 S2.out)
   clear S2
   generalize World.drew _ = w1 at hS S3 ⊢
   refine tk 0 rfl ?_
   try simp only [zp0, zp1, zp2, zp3, zp4]
   refine tk 1 rfl ?_
   try simp only [zp0, zp1, zp2, zp3, zp4]
   refine tk 2 rfl ?_
   try simp only [zp0, zp1, zp2, zp3, zp4]
   refine tk 3 rfl ?_
   try simp only [zp0, zp1, zp2, zp3, zp4]
   refine tk 4 rfl ?_
   try simp only [zp0, zp1, zp2, zp3, zp4]
   refine tk 5 rfl ?_
   try simp only [zp0, zp1, zp2, zp3, zp4]
   refine Reg.one_op (i := 6) rfl (by kernel_rfl) (fun K hK => ?_)
   go_simp
   go_at_call 52
   refine (HMT0.out _).mono ?_
   rintro e w2 ⟨rfl, hb⟩
   have S4 := Lib.hid (S3.out.keep hb)
   clear S3
   clear hb
   go_wp2_with fail
   refine hK.out _ _ (HK.out _ S4.out.old) (fun hS => ?_)
   clear hK K
   try simp only [zp0, zp1, zp2, zp3, zp4]
   refine tk 7 rfl ?_
   try simp only [zp0, zp1, zp2, zp3, zp4]
   refine wpAnyH_done (by kernel_rfl) ?_ _
   obtain ⟨f0, f1⟩ := HK.out _ S4.out.old
   go_upto_region 7 with fail
   try simp only [← HM1.out]
   go_wp2_with fail
   try simp only [← HM2.out]
   go_roundw
   case rel => exact ⟨j + 1, m2', by omega, by go_num, by first | rfl | go_num, by omega, by omega, And.intro (by have h1 := HFT.out; have h2 := HCX.out; have h3 := HM.out; have := HM1.out; have := HM2.out; omega) S4.out⟩
   case measure => simp [intOf]; omega
  ·
   skip
   obtain rfl : j = N := by omega
   have hT : xs.take j = xs := List.take_of_length_le (by have := HN.out; omega)
   have HT := Lib.hid hT
   clear hT
   go_wp2_with fail
   go_ret
   exact ⟨by have h := HM.out; rw [HT.out] at h; rw [← h] <;> rfl, S2.out.old⟩
end Go.Proofs.Ythiidcflpgbogaa.V

namespace Go.Proofs.Ythiidcflpgbogaa.V
open Go.ChangeShapes Go.WideShapes Go.ChangeAt Go.RowKit Mem Sl Sv Bag
open L5 (markT)
structure LRecord where
 a : Option Addr
 c : Nat
 l : List L5.F
def co_Record (z : LRecord) : List L5.F := coS_Field z.l
def vv_Record (z : LRecord) : Value := .agg #[.slice z.a z.l.length z.c]
def rw_Record (z : LRecord) : List RowS := rs_Field z.a z.c z.l
def wt_Record (c : List L5.F) : Nat := wsum wt_Field c
theorem wt_Record_parts (z : LRecord) : wt_Record (co_Record z) = wsum wt_Field (coS_Field z.l) := rfl
section
variable {H : Type} {enc : TypeId × Value → H} {W : World} {b : Nat} {sp : Nat → Bool} {hd : Bool}
end
set_option maxHeartbeats 4000000 in
theorem eq_Record (y z : LRecord) (hc : co_Record y = co_Record z) (hf : wt_Record (co_Record y) ≤ 1125899906842624) (w : World) (hr : RowsRd w w.heap.size (rw_Record y)) (hr2 : RowsRd w w.heap.size (rw_Record z)) : Calls Try.prog 49 #[vv_Record y, vv_Record z] w fun e w' => e = .returned (.bool true) ∧ Below w.heap.size w w' := by
 have hfp := hf
 rw [wt_Record_parts] at hfp
 have ee0 : z.l.length = y.l.length := (by have h := congrArg List.length (show coS_Field y.l = coS_Field z.l from hc); rw [coS_Field_eq, coS_Field_eq, List.length_map, List.length_map] at h; exact h.symm)
 have HE0 := Lib.hid (fun w' (h : Below w.heap.size w w') => eq_FieldS y.a z.a y.c z.c y.l z.l (hc) (by omega) w' (((rd_head hr).reads.below h).more h.size) (((rd_tail hr).below h).more h.size) (((rd_head hr2).reads.below h).more h.size) (((rd_tail hr2).below h).more h.size))
 simp only [ee0] at HE0
 have hv : vv_Record z = .agg #[.slice z.a y.l.length z.c] := by unfold vv_Record; simp only [ee0]
 rw [hv]
 clear hv hfp hf hc hr hr2 ee0
 unfold vv_Record
 have S1 := Lib.hid (show Sl.Sep w _ [_, _] from L4.push_box (L4.push_box (Sl.Sep.start w) 34 #[.slice y.a y.l.length y.c] (w.heap.size) (by simp)) 34 #[.slice z.a y.l.length z.c] (w.heap.size + 1) (by simp))
 obtain ⟨wa, hwa⟩ : ∃ u, u = ((w.alloc (.cells #[.slice y.a y.l.length y.c] 34)).alloc (.cells #[.slice z.a y.l.length z.c] 34)) := ⟨_, rfl⟩
 rw [← hwa] at S1
 go_enter Try.func49, Try.ntmps49
 go_upto_region 1 with fail
 rw [← hwa]
 clear hwa
 have f0 := Bag.cs1 S1.out 0 rfl
 have f1 := Bag.cs1 S1.out 1 rfl
 go_wp2_with fail
 go_at_call 76
 refine (HE0.out _ S1.out.old).mono ?_
 rintro e w1 ⟨rfl, hb⟩
 clear f0 f1
 have S2 := Lib.hid (S1.out.keep hb)
 clear S1
 clear hb
 have f0 := Bag.cs1 S2.out 0 rfl
 have f1 := Bag.cs1 S2.out 1 rfl
 go_wp2_with fail
 go_ret
 exact ⟨rfl, S2.out.old⟩
end Go.Proofs.Ythiidcflpgbogaa.V

set_option linter.unusedSimpArgs false
namespace Go.Proofs.Ythiidcflpgbogaa.V
open Go.ChangeShapes Go.WideShapes Go.ChangeAt Go.RowKit Mem Sl Sv Bag
open L5 (markT)
structure X_Op where
 f_Kind : Int
 f_Store : ByteArray
 f_Key : L4.K
 f_Record : List L5.F
 f_Field : ByteArray
structure Y_Op where
 f_Kind : Int
 f_Store : ByteArray
 f_Key : L4.K
 f_Record : LRecord
 f_Field : ByteArray
def co_Op (z : Y_Op) : X_Op := ⟨z.f_Kind, z.f_Store, co_Key z.f_Key, co_Record z.f_Record, z.f_Field⟩
def coS_Op (xs : List Y_Op) : List X_Op := xs.map co_Op
theorem coS_Op_eq (xs : List Y_Op) : coS_Op xs = xs.map co_Op := rfl
def cl_Op (z : Y_Op) : List Value := [.int .i64 z.f_Kind, .string z.f_Store, .int .i64 z.f_Key.kind, .int .i64 z.f_Key.n, .string z.f_Key.text, .slice z.f_Record.a z.f_Record.l.length z.f_Record.c, .string z.f_Field]
def vv_Op (z : Y_Op) : Value := .agg #[.int .i64 z.f_Kind, .string z.f_Store, .int .i64 z.f_Key.kind, .int .i64 z.f_Key.n, .string z.f_Key.text, .slice z.f_Record.a z.f_Record.l.length z.f_Record.c, .string z.f_Field]
def rw_Op (z : Y_Op) : List RowS := rw_Record z.f_Record
def wt_Op (c : X_Op) : Nat := c.f_Store.size + (wt_Key c.f_Key + (wt_Record c.f_Record + (c.f_Field.size)))
theorem wt_Op_parts (z : Y_Op) : wt_Op (co_Op z) = z.f_Store.size + (wt_Key (co_Key z.f_Key) + (wt_Record (co_Record z.f_Record) + (z.f_Field.size))) := rfl
theorem cl_Op_len (z : Y_Op) : (cl_Op z).length = 7 := rfl
theorem cl_Op_one (z : Y_Op) : ∀ u ∈ cl_Op z, u.oneCell' = true := by
 intro u hu
 unfold cl_Op at hu
 rcases List.mem_cons.1 hu with rfl | hu
 ·
  rfl
 rcases List.mem_cons.1 hu with rfl | hu
 ·
  rfl
 rcases List.mem_cons.1 hu with rfl | hu
 ·
  rfl
 rcases List.mem_cons.1 hu with rfl | hu
 ·
  rfl
 rcases List.mem_cons.1 hu with rfl | hu
 ·
  rfl
 rcases List.mem_cons.1 hu with rfl | hu
 ·
  rfl
 rcases List.mem_cons.1 hu with rfl | hu
 ·
  rfl
 cases hu
def row_Op (a : Option Addr) (c : Nat) (xs : List Y_Op) : RowS := ⟨36, 7, a, c, xs.length, xs.flatMap cl_Op⟩
def rws_Op (xs : List Y_Op) : List RowS := xs.flatMap rw_Op
theorem rws_Op_eq (xs : List Y_Op) : rws_Op xs = xs.flatMap rw_Op := rfl
def rs_Op (a : Option Addr) (c : Nat) (xs : List Y_Op) : List RowS := row_Op a c xs :: rws_Op xs
theorem rws_Op_app (xs ys : List Y_Op) : rws_Op (xs ++ ys) = rws_Op xs ++ rws_Op ys := by rw [rws_Op_eq, rws_Op_eq, rws_Op_eq, List.flatMap_append]
section
variable {H : Type} {enc : TypeId × Value → H} {W : World} {b : Nat} {sp : Nat → Bool} {hd : Bool}
end
set_option maxHeartbeats 4000000 in
theorem eq_Op (y z : Y_Op) (hc : co_Op y = co_Op z) (hf : wt_Op (co_Op y) ≤ 1125899906842624) (w : World) (hr : RowsRd w w.heap.size (rw_Op y)) (hr2 : RowsRd w w.heap.size (rw_Op z)) : Calls Try.prog 13 #[vv_Op y, vv_Op z] w fun e w' => e = .returned (.bool true) ∧ Below w.heap.size w w' := by
 have hfp := hf
 rw [wt_Op_parts] at hfp
 have ee0 : z.f_Kind = y.f_Kind := (show y.f_Kind = z.f_Kind from congrArg X_Op.f_Kind (hc)).symm
 have ee1 : z.f_Store = y.f_Store := (show y.f_Store = z.f_Store from congrArg X_Op.f_Store (hc)).symm
 have ee2 : z.f_Key = y.f_Key := (show y.f_Key = z.f_Key from congrArg X_Op.f_Key (hc)).symm
 have ee3 : z.f_Record.l.length = y.f_Record.l.length := (by have h := congrArg List.length (show coS_Field y.f_Record.l = coS_Field z.f_Record.l from (show co_Record y.f_Record = co_Record z.f_Record from congrArg X_Op.f_Record (hc))); rw [coS_Field_eq, coS_Field_eq, List.length_map, List.length_map] at h; exact h.symm)
 have ee4 : z.f_Field = y.f_Field := (show y.f_Field = z.f_Field from congrArg X_Op.f_Field (hc)).symm
 have HE2 := Lib.hid (fun w' => eq_Key y.f_Key w')
 dsimp only [vv_Key] at HE2
 have HE3 := Lib.hid (fun w' (h : Below w.heap.size w w') => eq_Record y.f_Record z.f_Record (congrArg X_Op.f_Record hc) (by omega) w' (((hr).below h).more h.size) (((hr2).below h).more h.size))
 try dsimp only [vv_Record] at HE3
 simp only [ee0, ee1, ee2, ee3, ee4] at HE3
 have hv : vv_Op z = .agg #[.int .i64 y.f_Kind, .string y.f_Store, .int .i64 y.f_Key.kind, .int .i64 y.f_Key.n, .string y.f_Key.text, .slice z.f_Record.a y.f_Record.l.length z.f_Record.c, .string y.f_Field] := by unfold vv_Op; simp only [ee0, ee1, ee2, ee3, ee4]
 rw [hv]
 clear hv hfp hf hc hr hr2 ee0 ee1 ee2 ee3 ee4
 unfold vv_Op
 have S1 := Lib.hid (show Sl.Sep w _ [_, _] from L4.push_box (L4.push_box (Sl.Sep.start w) 36 #[.int .i64 y.f_Kind, .string y.f_Store, .int .i64 y.f_Key.kind, .int .i64 y.f_Key.n, .string y.f_Key.text, .slice y.f_Record.a y.f_Record.l.length y.f_Record.c, .string y.f_Field] (w.heap.size) (by simp)) 36 #[.int .i64 y.f_Kind, .string y.f_Store, .int .i64 y.f_Key.kind, .int .i64 y.f_Key.n, .string y.f_Key.text, .slice z.f_Record.a y.f_Record.l.length z.f_Record.c, .string y.f_Field] (w.heap.size + 1) (by simp))
 obtain ⟨wa, hwa⟩ : ∃ w_, w_ = ((w.alloc (.cells #[.int .i64 y.f_Kind, .string y.f_Store, .int .i64 y.f_Key.kind, .int .i64 y.f_Key.n, .string y.f_Key.text, .slice y.f_Record.a y.f_Record.l.length y.f_Record.c, .string y.f_Field] 36)).alloc (.cells #[.int .i64 y.f_Kind, .string y.f_Store, .int .i64 y.f_Key.kind, .int .i64 y.f_Key.n, .string y.f_Key.text, .slice z.f_Record.a y.f_Record.l.length z.f_Record.c, .string y.f_Field] 36)) := ⟨_, rfl⟩
 rw [← hwa] at S1
 go_enter Try.func13, Try.ntmps13
 go_upto_region 1 with fail
 rw [← hwa]
 clear hwa
 obtain ⟨f0, f1, f2, f3, f4, f5, f6⟩ := Bag.cs7 S1.out 0 rfl
 obtain ⟨f7, f8, f9, f10, f11, f12, f13⟩ := Bag.cs7 S1.out 1 rfl
 go_wp2_with fail
 go_at_call 48
 refine (HE2.out _).mono ?_
 rintro e w1 ⟨rfl, hb⟩
 clear f0 f1 f2 f3 f4 f5 f6 f7 f8 f9 f10 f11 f12 f13
 have S2 := Lib.hid (S1.out.keep hb)
 clear S1
 clear hb
 obtain ⟨f0, f1, f2, f3, f4, f5, f6⟩ := Bag.cs7 S2.out 0 rfl
 obtain ⟨f7, f8, f9, f10, f11, f12, f13⟩ := Bag.cs7 S2.out 1 rfl
 go_wp2_with fail
 go_at_call 49
 refine (HE3.out _ S2.out.old).mono ?_
 rintro e w2 ⟨rfl, hb⟩
 clear f0 f1 f2 f3 f4 f5 f6 f7 f8 f9 f10 f11 f12 f13
 have S3 := Lib.hid (S2.out.keep hb)
 clear S2
 clear hb
 obtain ⟨f0, f1, f2, f3, f4, f5, f6⟩ := Bag.cs7 S3.out 0 rfl
 obtain ⟨f7, f8, f9, f10, f11, f12, f13⟩ := Bag.cs7 S3.out 1 rfl
 go_wp2_with fail
 go_ret
 exact ⟨rfl, S3.out.old⟩
set_option maxHeartbeats 4000000 in
theorem eq_OpS (a a2 : Option Addr) (c c2 : Nat) (xs xs2 : List Y_Op) (hc : coS_Op xs = coS_Op xs2) (hf : wsum wt_Op (coS_Op xs) ≤ 1125899906842624) (w : World) (hr : Reads w w.heap.size a (xs.flatMap cl_Op)) (hx : RowsRd w w.heap.size (rws_Op xs)) (hr2 : Reads w w.heap.size a2 (xs2.flatMap cl_Op)) (hx2 : RowsRd w w.heap.size (rws_Op xs2)) :
  Calls Try.prog 21 #[.slice a xs.length c, .slice a2 xs2.length c2] w fun e w' => e = .returned (.bool true) ∧ Below w.heap.size w w' := by
 have hlen : xs2.length = xs.length := by have h := congrArg List.length hc; rw [coS_Op_eq, coS_Op_eq, List.length_map, List.length_map] at h; exact h.symm
 have hl : xs.length ≤ 1125899906842624 := by have := wsum_len wt_Op (coS_Op xs); rw [coS_Op_eq, List.length_map] at this; rw [coS_Op_eq] at hf; omega
 have HR := Lib.hid (fun w' (h : Below w.heap.size w w') => hr.below h)
 have HR2 := Lib.hid (fun w' (h : Below w.heap.size w w') => hr2.below h)
 have HX := Lib.hid (fun w' (h : Below w.heap.size w w') => (hx.below h).more h.size)
 have HX2 := Lib.hid (fun w' (h : Below w.heap.size w w') => (hx2.below h).more h.size)
 rw [coS_Op_eq] at hf
 have HF := Lib.hid hf
 have HS := Lib.hid (show xs.map co_Op = xs2.map co_Op from by rw [← coS_Op_eq, ← coS_Op_eq]; exact hc)
 obtain ⟨N, hN⟩ : ∃ n, n = xs.length := ⟨_, rfl⟩
 rw [hlen, ← hN]
 rw [← hN] at hl
 have hl' : (N : Int) ≤ 1125899906842624 := by omega
 have HN := Lib.hid hN
 clear hN hr hr2 hx hx2 hf hc hlen
 have S1 := Lib.hid (show Sl.Sep w w [] from Sl.Sep.start w)
 go_enter Try.func21, Try.ntmps21
 go_wp2_with fail
 go_loopw [5] (fun i wr => ∃ k : Nat, k ≤ N ∧ i = .int .i64 k ∧ Hid (Sl.Sep w wr [])) (fun i _ => N - (intOf i).toNat)
 case atStart => exact ⟨0, Nat.zero_le _, rfl, S1.out⟩
 case round =>
  obtain ⟨k, hk, rfl, hrel⟩ := hrel
  have S2 := Lib.hid hrel.out
  clear hrel S1
  by_cases hlt : (k : Int) < (N : Int)
  ·
   skip
   have hkl : k < xs.length := by have := HN.out; omega
   obtain ⟨x, hx⟩ : ∃ x, xs[k]? = some x := ⟨_, List.getElem?_eq_getElem hkl⟩
   obtain ⟨ad, e'⟩ := el_some cl_Op_len (by decide) (HR.out _ S2.out.old) (List.getElem?_eq_some_iff.1 hx).1
   subst e'
   have HK := Lib.hid (fun w' (h : Below w.heap.size w w') => el7 cl_Op_len (HR.out _ h) hx rfl)
   obtain ⟨x2, hx2, hcx⟩ := map_same HS.out hx
   obtain ⟨ad2, e'⟩ := el_some cl_Op_len (by decide) (HR2.out _ S2.out.old) (List.getElem?_eq_some_iff.1 hx2).1
   subst e'
   have HK2 := Lib.hid (fun w' (h : Below w.heap.size w w') => el7 cl_Op_len (HR2.out _ h) hx2 rfl)
   have ee0 : x2.f_Kind = x.f_Kind := (show x.f_Kind = x2.f_Kind from congrArg X_Op.f_Kind (hcx.symm)).symm
   have ee1 : x2.f_Store = x.f_Store := (show x.f_Store = x2.f_Store from congrArg X_Op.f_Store (hcx.symm)).symm
   have ee2 : x2.f_Key = x.f_Key := (show x.f_Key = x2.f_Key from congrArg X_Op.f_Key (hcx.symm)).symm
   have ee3 : x2.f_Record.l.length = x.f_Record.l.length := (by have h := congrArg List.length (show coS_Field x.f_Record.l = coS_Field x2.f_Record.l from (show co_Record x.f_Record = co_Record x2.f_Record from congrArg X_Op.f_Record (hcx.symm))); rw [coS_Field_eq, coS_Field_eq, List.length_map, List.length_map] at h; exact h.symm)
   have ee4 : x2.f_Field = x.f_Field := (show x.f_Field = x2.f_Field from congrArg X_Op.f_Field (hcx.symm)).symm
   have HEQ := fun w' (h : Below w.heap.size w w') => eq_Op x x2 hcx.symm (by have h1 := wsum_mem (f := wt_Op) (List.mem_map.2 ⟨x, List.mem_of_getElem? hx, rfl⟩ : co_Op x ∈ xs.map co_Op); have h2 := HF.out; omega) w' (rd_el (rw_ := rw_Op) (by rw [← rws_Op_eq]; exact HX.out w' h) hx) (rd_el (rw_ := rw_Op) (by rw [← rws_Op_eq]; exact HX2.out w' h) hx2)
   dsimp only [vv_Op] at HEQ
   try dsimp only [cl_Op] at HK2
   simp only [ee0, ee1, ee2, ee3, ee4] at HEQ HK2
   replace HEQ := Lib.hid HEQ
   clear hcx ee0 ee1 ee2 ee3 ee4
   try dsimp only [vv_Op] at HEQ
   clear hx hx2
   go_upto_region 6 with fail
   refine wp_region_held_drew (S := (fun w' => (w'.cell? (ad.add (k * 7)) = some (.int .i64 x.f_Kind) ∧ w'.cell? (⟨(ad.add (k * 7)).block, (ad.add (k * 7)).off + 1, none⟩) = some (.string x.f_Store) ∧ w'.cell? (⟨(ad.add (k * 7)).block, (ad.add (k * 7)).off + 2, none⟩) = some (.int .i64 x.f_Key.kind) ∧ w'.cell? (⟨(ad.add (k * 7)).block, (ad.add (k * 7)).off + 3, none⟩) = some (.int .i64 x.f_Key.n) ∧ w'.cell? (⟨(ad.add (k * 7)).block, (ad.add (k * 7)).off + 4, none⟩) = some (.string x.f_Key.text) ∧ w'.cell? (⟨(ad.add (k * 7)).block, (ad.add (k * 7)).off + 5, none⟩) = some (.slice x.f_Record.a x.f_Record.l.length x.f_Record.c) ∧ w'.cell? (⟨(ad.add (k * 7)).block, (ad.add (k * 7)).off + 6, none⟩) = some (.string x.f_Field)) ∧ (w'.cell? (ad2.add (k * 7)) = some (.int .i64 x.f_Kind) ∧ w'.cell? (⟨(ad2.add (k * 7)).block, (ad2.add (k * 7)).off + 1, none⟩) = some (.string x.f_Store) ∧ w'.cell? (⟨(ad2.add (k * 7)).block, (ad2.add (k * 7)).off + 2, none⟩) = some (.int .i64 x.f_Key.kind) ∧ w'.cell? (⟨(ad2.add (k * 7)).block, (ad2.add (k * 7)).off + 3, none⟩) = some (.int .i64 x.f_Key.n) ∧ w'.cell? (⟨(ad2.add (k * 7)).block, (ad2.add (k * 7)).off + 4, none⟩) = some (.string x.f_Key.text) ∧ w'.cell? (⟨(ad2.add (k * 7)).block, (ad2.add (k * 7)).off + 5, none⟩) = some (.slice x2.f_Record.a x.f_Record.l.length x2.f_Record.c) ∧ w'.cell? (⟨(ad2.add (k * 7)).block, (ad2.add (k * 7)).off + 6, none⟩) = some (.string x.f_Field)))) (by kernel_rfl) ⟨HK.out _ (Bag.drew1 S2.out).old, HK2.out _ (Bag.drew1 S2.out).old⟩ (fun hS => ?_)
   have S3 := Lib.hid (Bag.drew1 S2.out)
   clear S2
   generalize World.drew _ = w1 at hS S3 ⊢
   refine tk 0 rfl ?_
   try simp only [zp0, zp1, zp2, zp3, zp4]
   refine tk 1 rfl ?_
   try simp only [zp0, zp1, zp2, zp3, zp4]
   refine tk 2 rfl ?_
   try simp only [zp0, zp1, zp2, zp3, zp4]
   refine tk 3 rfl ?_
   try simp only [zp0, zp1, zp2, zp3, zp4]
   refine tk 4 rfl ?_
   try simp only [zp0, zp1, zp2, zp3, zp4]
   refine tk 5 rfl ?_
   try simp only [zp0, zp1, zp2, zp3, zp4]
   refine tk 6 rfl ?_
   try simp only [zp0, zp1, zp2, zp3, zp4]
   refine tk 7 rfl ?_
   try simp only [zp0, zp1, zp2, zp3, zp4]
   refine Reg.one_op (i := 8) rfl (by kernel_rfl) (fun K hK => ?_)
   go_simp
   go_at_call 13
   refine (HEQ.out _ S3.out.old).mono ?_
   rintro e w2 ⟨rfl, hb⟩
   have S4 := Lib.hid (S3.out.keep hb)
   clear S3
   clear hb
   go_wp2_with fail
   refine hK.out _ _ ⟨HK.out _ S4.out.old, HK2.out _ S4.out.old⟩ (fun hS => ?_)
   clear hK K
   try simp only [zp0, zp1, zp2, zp3, zp4]
   refine tk 9 rfl ?_
   try simp only [zp0, zp1, zp2, zp3, zp4]
   refine wpAnyH_done (by kernel_rfl) ?_ _
   obtain ⟨f0, f1, f2, f3, f4, f5, f6⟩ := HK.out _ S4.out.old
   obtain ⟨f7, f8, f9, f10, f11, f12, f13⟩ := HK2.out _ S4.out.old
   go_wp2_with fail
   go_roundw
   case rel => exact ⟨k + 1, by omega, by go_num, S4.out⟩
   case measure => simp [intOf]; omega
  ·
   skip
   go_wp2_with fail
   go_ret
   exact ⟨rfl, S2.out.old⟩
def em_Op (k : Int) (z : Y_Op) : Y_Op := ⟨k, markT (k + 1), (⟨((k + 1) + 1), (((k + 1) + 1) + 1), markT ((((k + 1) + 1) + 1) + 1)⟩ : L4.K), (⟨z.f_Record.a, z.f_Record.c, (mks em_Field cnt_Field (((((k + 1) + 1) + 1) + 1) + 1) z.f_Record.l)⟩ : LRecord), markT ((((((k + 1) + 1) + 1) + 1) + 1) + (fsum cnt_Field z.f_Record.l : Int))⟩
def cnt_Op (z : Y_Op) : Nat := 1 + (1 + (1 + (1 + (1 + (fsum cnt_Field z.f_Record.l + (1))))))
theorem cntS_Op (z : Y_Op) : cnt_Op z ≤ 64 * (wt_Op (co_Op z) + 1) := by
 have h5 := cnt_sum cntS_Field z.f_Record.l
 have hw : wt_Op (co_Op z) = z.f_Store.size + (z.f_Key.text.size + (wsum wt_Field (coS_Field z.f_Record.l) + (z.f_Field.size))) := by rfl
 rw [← coS_Field_eq] at h5
 unfold cnt_Op
 omega
theorem em_Op_fp (k : Int) (z : Y_Op) : (rw_Op (em_Op k z)).flatMap RowS.fp = (rw_Op z).flatMap RowS.fp := by
 show ((rs_Field z.f_Record.a z.f_Record.c (mks em_Field cnt_Field (((((k + 1) + 1) + 1) + 1) + 1) z.f_Record.l))).flatMap RowS.fp = ((rs_Field z.f_Record.a z.f_Record.c z.f_Record.l)).flatMap RowS.fp
 simp only [List.flatMap_append, rs_Field_fp]
theorem rs_Op_fp (a : Option Addr) (c : Nat) (xs : List Y_Op) (k : Int) : (rs_Op a c (mks em_Op cnt_Op k xs)).flatMap RowS.fp = (rs_Op a c xs).flatMap RowS.fp := by
 unfold rs_Op
 rw [List.flatMap_cons, List.flatMap_cons, rws_Op_eq, rws_Op_eq, mks_fp em_Op_fp]
 congr 1
 unfold row_Op RowS.fp
 cases a <;> rfl
set_option maxHeartbeats 8000000 in
theorem mark_OpS_sep (a : Option Addr) (c : Nat) (xs : List Y_Op) (k : Int) (W w : World) (S : Sl.Sep W w [bag (rs_Op a c xs), Run.restL W w (bag (rs_Op a c xs)).fp]) (hf : wsum wt_Op (coS_Op xs) ≤ 1125899906842624) (hk0 : 0 < k) (hk1 : k + (fsum cnt_Op xs : Int) ≤ 2305843009213693952) :
  Calls Try.prog 22 #[.slice a xs.length c, .int .i64 k] w fun e w' => e = .returned (.int .i64 (k + (fsum cnt_Op xs : Int))) ∧ Sl.Sep W w' [bag (rs_Op a c (mks em_Op cnt_Op k xs)), Run.restL W w (bag (rs_Op a c xs)).fp] := by
 have HF := Lib.hid hf
 have hl : xs.length ≤ 1125899906842624 := by have := wsum_len wt_Op (coS_Op xs); rw [coS_Op_eq, List.length_map] at this; rw [coS_Op_eq] at hf; omega
 clear hf
 obtain ⟨fps, hfps⟩ : ∃ f, f = (bag (rs_Op a c xs)).fp := ⟨_, rfl⟩
 rw [← hfps] at S ⊢
 clear hfps
 rcases (S.is 0 _ rfl).own (row_Op a c xs) (List.mem_cons_self ..) |>.form with ⟨ha, hn0, -, hc0⟩ | ⟨g, hg, -, -, hnc, -⟩
 ·
  have ha' : a = none := ha
  have hc' : c = 0 := hc0
  have hx : xs = [] := List.eq_nil_of_length_eq_zero hn0
  subst hx
  have H := Lib.hid S
  clear S HF hk1
  go_enter Try.func22, Try.ntmps22
  go_wp2_with fail
  refine wp_loop_rounds 1 ?_
  rw [rounds_succ]
  go_wp2_with fail
  go_ret
  exact ⟨by rw [fsum_nil]; first | rfl | (refine congrArg (fun i => Ending.returned (.int .i64 i)) ?_; omega), H.out⟩
 have hg' : a = some ⟨g, 0, none⟩ := hg
 subst hg'
 obtain ⟨N, hN⟩ : ∃ n, n = xs.length := ⟨_, rfl⟩
 rw [← hN] at hl ⊢
 have hl' : (N : Int) ≤ 1125899906842624 := by omega
 have HN := Lib.hid hN
 have HK1 := Lib.hid hk1
 have hk2 : k ≤ 2305843009213693952 := by omega
 have S1 := Lib.hid S
 clear hg hN S hnc hk1
 have S2 := Lib.hid (show Sl.Sep W _ [Bag.bag ([row_Op (some ⟨g, 0, none⟩) c xs] ++ rws_Op xs), Run.restL W w fps] from S1.out)
 clear S1
 have S3 := Lib.hid (show Sl.Sep W _ [Bag.bag ([row_Op (some ⟨g, 0, none⟩) c xs]), _, Bag.bag (rws_Op xs)] from Bag.bag_split S2.out 0 rfl)
 clear S2
 have S4 := Lib.hid (show Sl.Sep W _ [Sv.ownV 36 7 (some ⟨g, 0, none⟩) c N ((mks em_Op cnt_Op k [] ++ xs.drop 0).flatMap cl_Op), _, _] from (by have h := Bag.one_of_bag S3.out 0 (r := row_Op (some ⟨g, 0, none⟩) c xs) rfl; unfold RowS.res row_Op at h; dsimp only at h; rw [← HN.out] at h; exact h))
 clear S3
 have S5 := Lib.hid (show Sl.Sep W _ [Sv.ownV 36 7 (some ⟨g, 0, none⟩) c N ((mks em_Op cnt_Op k [] ++ xs.drop 0).flatMap cl_Op), Bag.bag (rws_Op (mks em_Op cnt_Op k []) ++ rws_Op (xs.drop 0)), Run.restL W w fps] from Bag.take (by have h := S4.out; rw [show rws_Op xs = rws_Op (mks em_Op cnt_Op k []) ++ rws_Op (xs.drop 0) from by rw [← rws_Op_app]; rfl] at h; exact h) [0, 2, 1] (by rfl) (by decide))
 clear S4
 go_enter Try.func22, Try.ntmps22
 go_wp2_with fail
 go_loopw [1, 5] (fun v i wr => ∃ (j : Nat) (m : Int), j ≤ N ∧ i = .int .i64 j ∧ v = .int .i64 m ∧ k ≤ m ∧ m ≤ 2305843009213693952 ∧ Hid (m = k + (fsum cnt_Op (xs.take j) : Int) ∧ Sl.Sep W wr [Sv.ownV 36 7 (some ⟨g, 0, none⟩) c N (((mks em_Op cnt_Op k (xs.take j)) ++ xs.drop j).flatMap cl_Op), Bag.bag (rws_Op (mks em_Op cnt_Op k (xs.take j)) ++ rws_Op (xs.drop j)), Run.restL W w fps])) (fun _ i _ => N - (intOf i).toNat)
 case atStart => exact ⟨0, k, Nat.zero_le _, rfl, rfl, by omega, by omega, And.intro (by rw [List.take_zero, fsum_nil]; omega) S5.out⟩
 case round =>
  obtain ⟨j, m, hj, rfl, rfl, hm0, hm1, hrel⟩ := hrel
  have HM := Lib.hid hrel.out.1
  have S6 := Lib.hid hrel.out.2
  clear hrel S5
  by_cases hlt : (j : Int) < (N : Int)
  ·
   skip
   have hjl : j < xs.length := by have := HN.out; omega
   obtain ⟨x, hx⟩ : ∃ x, xs[j]? = some x := ⟨_, List.getElem?_eq_getElem hjl⟩
   have HFT := Lib.hid (fsum_take (f := cnt_Op) hx)
   have hfa := fsum_at (f := cnt_Op) hx
   have hcx : cnt_Op x = 1 + (1 + (1 + (1 + (1 + (fsum cnt_Field x.f_Record.l + (1)))))) := rfl
   have HMN := Lib.hid (show (mks em_Op cnt_Op k (xs.take (j + 1))) = (mks em_Op cnt_Op k (xs.take j)) ++ [em_Op m x] from by rw [mks_next em_Op cnt_Op k hx, ← HM.out])
   have HDR := Lib.hid (drop_next hx)
   have hwm : wt_Op (co_Op x) + 1 ≤ 1125899906842624 := by have h1 := wsum_mem (f := wt_Op) (List.mem_map.2 ⟨x, List.mem_of_getElem? hx, rfl⟩ : co_Op x ∈ xs.map co_Op); have h2 := HF.out; rw [coS_Op_eq] at h2; omega
   have HFW5 := Lib.hid (show wsum wt_Field (coS_Field x.f_Record.l) ≤ 1125899906842624 from by have h2 : wt_Op (co_Op x) = x.f_Store.size + (x.f_Key.text.size + (wsum wt_Field (coS_Field x.f_Record.l) + (x.f_Field.size))) := rfl; omega)
   clear hwm hx
   obtain ⟨s5, hs5⟩ : ∃ u, u = fsum cnt_Field x.f_Record.l := ⟨_, rfl⟩
   rw [← hs5] at hcx
   have hmc : m + (cnt_Op x : Int) ≤ 2305843009213693952 := by have := HM.out; have := HK1.out; omega
   have HCX := Lib.hid hcx
   have hcx' : (cnt_Op x : Int) = 1 + 1 + 1 + 1 + 1 + (s5 : Int) + 1 := by omega
   rw [hcx'] at hmc
   clear hcx' hcx hfa
   obtain ⟨m1', hm⟩ : ∃ u : Int, u = m + 1 := ⟨_, rfl⟩
   have bd0 : 0 < m1' ∧ m1' ≤ 2305843009213693952 := by omega
   have bl0 : m ≤ m1' := by omega
   have HM1 := Lib.hid hm
   have hme1 := hm
   clear hm
   obtain ⟨m2', hm⟩ : ∃ u : Int, u = m1' + 1 := ⟨_, rfl⟩
   have bd1 : 0 < m2' ∧ m2' ≤ 2305843009213693952 := by omega
   have bl1 : m1' ≤ m2' := by omega
   have HM2 := Lib.hid hm
   have hme2 := hm
   clear hm
   obtain ⟨m3', hm⟩ : ∃ u : Int, u = m2' + 1 := ⟨_, rfl⟩
   have bd2 : 0 < m3' ∧ m3' ≤ 2305843009213693952 := by omega
   have bl2 : m2' ≤ m3' := by omega
   have HM3 := Lib.hid hm
   have hme3 := hm
   clear hm
   obtain ⟨m4', hm⟩ : ∃ u : Int, u = m3' + 1 := ⟨_, rfl⟩
   have bd3 : 0 < m4' ∧ m4' ≤ 2305843009213693952 := by omega
   have bl3 : m3' ≤ m4' := by omega
   have HM4 := Lib.hid hm
   have hme4 := hm
   clear hm
   obtain ⟨m5', hm⟩ : ∃ u : Int, u = m4' + 1 := ⟨_, rfl⟩
   have bd4 : 0 < m5' ∧ m5' ≤ 2305843009213693952 := by omega
   have bl4 : m4' ≤ m5' := by omega
   have HM5 := Lib.hid hm
   have hme5 := hm
   clear hm
   obtain ⟨m6', hm⟩ : ∃ u : Int, u = m5' + (s5 : Int) := ⟨_, rfl⟩
   have bd5 : 0 < m6' ∧ m6' ≤ 2305843009213693952 := by omega
   have bl5 : m5' ≤ m6' := by omega
   have HM6 := Lib.hid hm
   have hme6 := hm
   clear hm
   obtain ⟨m7', hm⟩ : ∃ u : Int, u = m6' + 1 := ⟨_, rfl⟩
   have bd6 : 0 < m7' ∧ m7' ≤ 2305843009213693952 := by omega
   have bl6 : m6' ≤ m7' := by omega
   have HM7 := Lib.hid hm
   have hme7 := hm
   clear hm
   have HS5 := Lib.hid hs5
   clear hs5
   clear hmc hme1 hme2 hme3 hme4 hme5 hme6 hme7
   have HDL := Lib.hid (show ((mks em_Op cnt_Op k (xs.take j)).flatMap cl_Op).length = j * 7 by rw [flat_len cl_Op_len, mks_len, List.length_take, Nat.min_eq_left (by omega)])
   obtain ⟨R0, hR0⟩ : ∃ R0, R0 = (xs.drop (j + 1)).flatMap cl_Op := ⟨_, rfl⟩
   obtain ⟨D0, hD0⟩ : ∃ D0, D0 = (mks em_Op cnt_Op k (xs.take j)).flatMap cl_Op := ⟨_, rfl⟩
   have HR0 := Lib.hid hR0
   have HD0 := Lib.hid hD0
   rw [← hD0] at HDL
   clear hR0 hD0
   have S7 := Lib.hid (show Sl.Sep W _ [Sv.ownV 36 7 (some ⟨g, 0, none⟩) c N (D0 ++ (.int .i64 x.f_Kind :: .string x.f_Store :: .int .i64 x.f_Key.kind :: .int .i64 x.f_Key.n :: .string x.f_Key.text :: .slice x.f_Record.a x.f_Record.l.length x.f_Record.c :: .string x.f_Field :: R0)), Bag.bag (rws_Op (mks em_Op cnt_Op k (xs.take j)) ++ rws_Op (xs.drop j)), Run.restL W w fps] from (by have h := S6.out; rw [show ((mks em_Op cnt_Op k (xs.take j)) ++ xs.drop j).flatMap cl_Op = D0 ++ (.int .i64 x.f_Kind :: .string x.f_Store :: .int .i64 x.f_Key.kind :: .int .i64 x.f_Key.n :: .string x.f_Key.text :: .slice x.f_Record.a x.f_Record.l.length x.f_Record.c :: .string x.f_Field :: R0) from by rw [List.flatMap_append, HDR.out, List.flatMap_cons, ← HR0.out, ← HD0.out]; rfl] at h; exact h))
   clear S6
   have S8 := Lib.hid (show Sl.Sep W _ [Sv.ownV 36 7 (some ⟨g, 0, none⟩) c N (D0 ++ (.int .i64 x.f_Kind :: .string x.f_Store :: .int .i64 x.f_Key.kind :: .int .i64 x.f_Key.n :: .string x.f_Key.text :: .slice x.f_Record.a x.f_Record.l.length x.f_Record.c :: .string x.f_Field :: R0)), Bag.bag ((rws_Op (mks em_Op cnt_Op k (xs.take j)) ++ rws_Op (xs.drop (j + 1))) ++ rw_Op x), Run.restL W w fps] from Bag.bag_perm S7.out 1 rfl (by rw [HDR.out, rws_Op_eq, rws_Op_eq, rws_Op_eq]; exact flat_out _ _ _))
   clear S7
   have S9 := Lib.hid (show Sl.Sep W _ [_, Bag.bag (rws_Op (mks em_Op cnt_Op k (xs.take j)) ++ rws_Op (xs.drop (j + 1))), _, Bag.bag ((rs_Field x.f_Record.a x.f_Record.c x.f_Record.l))] from Bag.bag_split S8.out 1 rfl)
   clear S8
   have q0 : World.cell? wr ⟨g, j * 7, none⟩ = some (.int .i64 x.f_Kind) := by rw [(Sv.own_at S9.out 0 rfl).cell (j * 7) (by rw [List.length_append, HDL.out]; simp <;> omega)]; simp [List.getElem_append, HDL.out]
   have z0 := (Sv.own_at S9.out 0 rfl).free (j * 7)
   go_upto_region 6 with fail
   try simp only [← HM1.out]
   clear q0 z0
   have HOV := Lib.hid (show Run.over (D0 ++ (.int .i64 x.f_Kind :: .string x.f_Store :: .int .i64 x.f_Key.kind :: .int .i64 x.f_Key.n :: .string x.f_Key.text :: .slice x.f_Record.a x.f_Record.l.length x.f_Record.c :: .string x.f_Field :: R0)) (j * 7) [.int .i64 m] = D0 ++ (.int .i64 m :: .string x.f_Store :: .int .i64 x.f_Key.kind :: .int .i64 x.f_Key.n :: .string x.f_Key.text :: .slice x.f_Record.a x.f_Record.l.length x.f_Record.c :: .string x.f_Field :: R0) from by rw [show D0 ++ (.int .i64 x.f_Kind :: .string x.f_Store :: .int .i64 x.f_Key.kind :: .int .i64 x.f_Key.n :: .string x.f_Key.text :: .slice x.f_Record.a x.f_Record.l.length x.f_Record.c :: .string x.f_Field :: R0) = D0 ++ ([.int .i64 x.f_Kind] ++ (.string x.f_Store :: .int .i64 x.f_Key.kind :: .int .i64 x.f_Key.n :: .string x.f_Key.text :: .slice x.f_Record.a x.f_Record.l.length x.f_Record.c :: .string x.f_Field :: R0)) from by simp, Run.over_mid D0 (.string x.f_Store :: .int .i64 x.f_Key.kind :: .int .i64 x.f_Key.n :: .string x.f_Key.text :: .slice x.f_Record.a x.f_Record.l.length x.f_Record.c :: .string x.f_Field :: R0) [.int .i64 m] [.int .i64 x.f_Kind] (j * 7) (by simp [HDL.out]) rfl]; simp)
   have S10 := Lib.hid (show Sl.Sep W (wr.setCell ⟨g, j * 7, none⟩ (.int .i64 m)) [Sv.ownV 36 7 (some ⟨g, 0, none⟩) c N (D0 ++ (.int .i64 m :: .string x.f_Store :: .int .i64 x.f_Key.kind :: .int .i64 x.f_Key.n :: .string x.f_Key.text :: .slice x.f_Record.a x.f_Record.l.length x.f_Record.c :: .string x.f_Field :: R0)), _, _, _] from (by have h := Run.put_run S9.out 0 rfl (j * 7) [.int .i64 m] (by rw [List.length_append, HDL.out]; simp <;> omega); rw [HOV.out] at h; exact h))
   clear S9
   clear HOV
   generalize (wr.setCell ⟨g, j * 7, none⟩ (.int .i64 m)) = w1 at S10 ⊢
   have HMT := Lib.hid (fun w' => L5.markText_any m1' (by omega) (by omega) w')
   go_wp2_with fail
   go_at_call 52
   refine (HMT.out _).mono ?_
   rintro e w2 ⟨rfl, hb⟩
   have S11 := Lib.hid (S10.out.keep hb)
   clear S10
   clear hb
   clear HMT
   have q1 : World.cell? w2 ⟨g, j * 7 + 1, none⟩ = some (.string x.f_Store) := by rw [(Sv.own_at S11.out 0 rfl).cell (j * 7 + 1) (by rw [List.length_append, HDL.out]; simp <;> omega)]; simp [List.getElem_append, HDL.out]
   have z1 := (Sv.own_at S11.out 0 rfl).free (j * 7 + 1)
   go_upto_region 8 with fail
   try simp only [← HM2.out]
   clear q1 z1
   have HOV := Lib.hid (show Run.over (D0 ++ (.int .i64 m :: .string x.f_Store :: .int .i64 x.f_Key.kind :: .int .i64 x.f_Key.n :: .string x.f_Key.text :: .slice x.f_Record.a x.f_Record.l.length x.f_Record.c :: .string x.f_Field :: R0)) (j * 7 + 1) [.string (markT m1')] = D0 ++ (.int .i64 m :: .string (markT m1') :: .int .i64 x.f_Key.kind :: .int .i64 x.f_Key.n :: .string x.f_Key.text :: .slice x.f_Record.a x.f_Record.l.length x.f_Record.c :: .string x.f_Field :: R0) from by rw [show D0 ++ (.int .i64 m :: .string x.f_Store :: .int .i64 x.f_Key.kind :: .int .i64 x.f_Key.n :: .string x.f_Key.text :: .slice x.f_Record.a x.f_Record.l.length x.f_Record.c :: .string x.f_Field :: R0) = (D0 ++ ([.int .i64 m] : List Value)) ++ ([.string x.f_Store] ++ (.int .i64 x.f_Key.kind :: .int .i64 x.f_Key.n :: .string x.f_Key.text :: .slice x.f_Record.a x.f_Record.l.length x.f_Record.c :: .string x.f_Field :: R0)) from by simp, Run.over_mid (D0 ++ ([.int .i64 m] : List Value)) (.int .i64 x.f_Key.kind :: .int .i64 x.f_Key.n :: .string x.f_Key.text :: .slice x.f_Record.a x.f_Record.l.length x.f_Record.c :: .string x.f_Field :: R0) [.string (markT m1')] [.string x.f_Store] (j * 7 + 1) (by simp [HDL.out]) rfl]; simp)
   have S12 := Lib.hid (show Sl.Sep W (w2.setCell ⟨g, j * 7 + 1, none⟩ (.string (markT m1'))) [Sv.ownV 36 7 (some ⟨g, 0, none⟩) c N (D0 ++ (.int .i64 m :: .string (markT m1') :: .int .i64 x.f_Key.kind :: .int .i64 x.f_Key.n :: .string x.f_Key.text :: .slice x.f_Record.a x.f_Record.l.length x.f_Record.c :: .string x.f_Field :: R0)), Bag.bag (rws_Op (mks em_Op cnt_Op k (xs.take j)) ++ rws_Op (xs.drop (j + 1))), Run.restL W w fps, Bag.bag ((rs_Field x.f_Record.a x.f_Record.c x.f_Record.l))] from (by have h := Run.put_run S11.out 0 rfl (j * 7 + 1) [.string (markT m1')] (by rw [List.length_append, HDL.out]; simp <;> omega); rw [HOV.out] at h; exact h))
   clear S11
   clear HOV
   generalize (w2.setCell ⟨g, j * 7 + 1, none⟩ (.string (markT m1'))) = w3 at S12 ⊢
   have q2 : World.cell? w3 ⟨g, j * 7 + 2, none⟩ = some (.int .i64 x.f_Key.kind) := by rw [(Sv.own_at S12.out 0 rfl).cell (j * 7 + 2) (by rw [List.length_append, HDL.out]; simp <;> omega)]; simp [List.getElem_append, HDL.out]
   have z2 := (Sv.own_at S12.out 0 rfl).free (j * 7 + 2)
   go_upto_region 10 with fail
   try simp only [← HM3.out]
   clear q2 z2
   have HOV := Lib.hid (show Run.over (D0 ++ (.int .i64 m :: .string (markT m1') :: .int .i64 x.f_Key.kind :: .int .i64 x.f_Key.n :: .string x.f_Key.text :: .slice x.f_Record.a x.f_Record.l.length x.f_Record.c :: .string x.f_Field :: R0)) (j * 7 + 2) [.int .i64 m2'] = D0 ++ (.int .i64 m :: .string (markT m1') :: .int .i64 m2' :: .int .i64 x.f_Key.n :: .string x.f_Key.text :: .slice x.f_Record.a x.f_Record.l.length x.f_Record.c :: .string x.f_Field :: R0) from by rw [show D0 ++ (.int .i64 m :: .string (markT m1') :: .int .i64 x.f_Key.kind :: .int .i64 x.f_Key.n :: .string x.f_Key.text :: .slice x.f_Record.a x.f_Record.l.length x.f_Record.c :: .string x.f_Field :: R0) = (D0 ++ ([.int .i64 m, .string (markT m1')] : List Value)) ++ ([.int .i64 x.f_Key.kind] ++ (.int .i64 x.f_Key.n :: .string x.f_Key.text :: .slice x.f_Record.a x.f_Record.l.length x.f_Record.c :: .string x.f_Field :: R0)) from by simp, Run.over_mid (D0 ++ ([.int .i64 m, .string (markT m1')] : List Value)) (.int .i64 x.f_Key.n :: .string x.f_Key.text :: .slice x.f_Record.a x.f_Record.l.length x.f_Record.c :: .string x.f_Field :: R0) [.int .i64 m2'] [.int .i64 x.f_Key.kind] (j * 7 + 2) (by simp [HDL.out]) rfl]; simp)
   have S13 := Lib.hid (show Sl.Sep W (w3.setCell ⟨g, j * 7 + 2, none⟩ (.int .i64 m2')) [Sv.ownV 36 7 (some ⟨g, 0, none⟩) c N (D0 ++ (.int .i64 m :: .string (markT m1') :: .int .i64 m2' :: .int .i64 x.f_Key.n :: .string x.f_Key.text :: .slice x.f_Record.a x.f_Record.l.length x.f_Record.c :: .string x.f_Field :: R0)), _, _, _] from (by have h := Run.put_run S12.out 0 rfl (j * 7 + 2) [.int .i64 m2'] (by rw [List.length_append, HDL.out]; simp <;> omega); rw [HOV.out] at h; exact h))
   clear S12
   clear HOV
   generalize (w3.setCell ⟨g, j * 7 + 2, none⟩ (.int .i64 m2')) = w4 at S13 ⊢
   have q3 : World.cell? w4 ⟨g, j * 7 + 3, none⟩ = some (.int .i64 x.f_Key.n) := by rw [(Sv.own_at S13.out 0 rfl).cell (j * 7 + 3) (by rw [List.length_append, HDL.out]; simp <;> omega)]; simp [List.getElem_append, HDL.out]
   have z3 := (Sv.own_at S13.out 0 rfl).free (j * 7 + 3)
   go_upto_region 12 with fail
   try simp only [← HM4.out]
   clear q3 z3
   have HOV := Lib.hid (show Run.over (D0 ++ (.int .i64 m :: .string (markT m1') :: .int .i64 m2' :: .int .i64 x.f_Key.n :: .string x.f_Key.text :: .slice x.f_Record.a x.f_Record.l.length x.f_Record.c :: .string x.f_Field :: R0)) (j * 7 + 3) [.int .i64 m3'] = D0 ++ (.int .i64 m :: .string (markT m1') :: .int .i64 m2' :: .int .i64 m3' :: .string x.f_Key.text :: .slice x.f_Record.a x.f_Record.l.length x.f_Record.c :: .string x.f_Field :: R0) from by rw [show D0 ++ (.int .i64 m :: .string (markT m1') :: .int .i64 m2' :: .int .i64 x.f_Key.n :: .string x.f_Key.text :: .slice x.f_Record.a x.f_Record.l.length x.f_Record.c :: .string x.f_Field :: R0) = (D0 ++ ([.int .i64 m, .string (markT m1'), .int .i64 m2'] : List Value)) ++ ([.int .i64 x.f_Key.n] ++ (.string x.f_Key.text :: .slice x.f_Record.a x.f_Record.l.length x.f_Record.c :: .string x.f_Field :: R0)) from by simp, Run.over_mid (D0 ++ ([.int .i64 m, .string (markT m1'), .int .i64 m2'] : List Value)) (.string x.f_Key.text :: .slice x.f_Record.a x.f_Record.l.length x.f_Record.c :: .string x.f_Field :: R0) [.int .i64 m3'] [.int .i64 x.f_Key.n] (j * 7 + 3) (by simp [HDL.out]) rfl]; simp)
   have S14 := Lib.hid (show Sl.Sep W (w4.setCell ⟨g, j * 7 + 3, none⟩ (.int .i64 m3')) [Sv.ownV 36 7 (some ⟨g, 0, none⟩) c N (D0 ++ (.int .i64 m :: .string (markT m1') :: .int .i64 m2' :: .int .i64 m3' :: .string x.f_Key.text :: .slice x.f_Record.a x.f_Record.l.length x.f_Record.c :: .string x.f_Field :: R0)), _, _, _] from (by have h := Run.put_run S13.out 0 rfl (j * 7 + 3) [.int .i64 m3'] (by rw [List.length_append, HDL.out]; simp <;> omega); rw [HOV.out] at h; exact h))
   clear S13
   clear HOV
   generalize (w4.setCell ⟨g, j * 7 + 3, none⟩ (.int .i64 m3')) = w5 at S14 ⊢
   have HMT := Lib.hid (fun w' => L5.markText_any m4' (by omega) (by omega) w')
   go_wp2_with fail
   go_at_call 52
   refine (HMT.out _).mono ?_
   rintro e w6 ⟨rfl, hb⟩
   have S15 := Lib.hid (S14.out.keep hb)
   clear S14
   clear hb
   clear HMT
   have q4 : World.cell? w6 ⟨g, j * 7 + 4, none⟩ = some (.string x.f_Key.text) := by rw [(Sv.own_at S15.out 0 rfl).cell (j * 7 + 4) (by rw [List.length_append, HDL.out]; simp <;> omega)]; simp [List.getElem_append, HDL.out]
   have z4 := (Sv.own_at S15.out 0 rfl).free (j * 7 + 4)
   go_upto_region 14 with fail
   try simp only [← HM5.out]
   clear q4 z4
   have HOV := Lib.hid (show Run.over (D0 ++ (.int .i64 m :: .string (markT m1') :: .int .i64 m2' :: .int .i64 m3' :: .string x.f_Key.text :: .slice x.f_Record.a x.f_Record.l.length x.f_Record.c :: .string x.f_Field :: R0)) (j * 7 + 4) [.string (markT m4')] = D0 ++ (.int .i64 m :: .string (markT m1') :: .int .i64 m2' :: .int .i64 m3' :: .string (markT m4') :: .slice x.f_Record.a x.f_Record.l.length x.f_Record.c :: .string x.f_Field :: R0) from by rw [show D0 ++ (.int .i64 m :: .string (markT m1') :: .int .i64 m2' :: .int .i64 m3' :: .string x.f_Key.text :: .slice x.f_Record.a x.f_Record.l.length x.f_Record.c :: .string x.f_Field :: R0) = (D0 ++ ([.int .i64 m, .string (markT m1'), .int .i64 m2', .int .i64 m3'] : List Value)) ++ ([.string x.f_Key.text] ++ (.slice x.f_Record.a x.f_Record.l.length x.f_Record.c :: .string x.f_Field :: R0)) from by simp, Run.over_mid (D0 ++ ([.int .i64 m, .string (markT m1'), .int .i64 m2', .int .i64 m3'] : List Value)) (.slice x.f_Record.a x.f_Record.l.length x.f_Record.c :: .string x.f_Field :: R0) [.string (markT m4')] [.string x.f_Key.text] (j * 7 + 4) (by simp [HDL.out]) rfl]; simp)
   have S16 := Lib.hid (show Sl.Sep W (w6.setCell ⟨g, j * 7 + 4, none⟩ (.string (markT m4'))) [Sv.ownV 36 7 (some ⟨g, 0, none⟩) c N (D0 ++ (.int .i64 m :: .string (markT m1') :: .int .i64 m2' :: .int .i64 m3' :: .string (markT m4') :: .slice x.f_Record.a x.f_Record.l.length x.f_Record.c :: .string x.f_Field :: R0)), Bag.bag (rws_Op (mks em_Op cnt_Op k (xs.take j)) ++ rws_Op (xs.drop (j + 1))), Run.restL W w fps, Bag.bag ((rs_Field x.f_Record.a x.f_Record.c x.f_Record.l))] from (by have h := Run.put_run S15.out 0 rfl (j * 7 + 4) [.string (markT m4')] (by rw [List.length_append, HDL.out]; simp <;> omega); rw [HOV.out] at h; exact h))
   clear S15
   clear HOV
   generalize (w6.setCell ⟨g, j * 7 + 4, none⟩ (.string (markT m4'))) = w7 at S16 ⊢
   have q5 : World.cell? w7 ⟨g, j * 7 + 5, none⟩ = some (.slice x.f_Record.a x.f_Record.l.length x.f_Record.c) := by rw [(Sv.own_at S16.out 0 rfl).cell (j * 7 + 5) (by rw [List.length_append, HDL.out]; simp <;> omega)]; simp [List.getElem_append, HDL.out]
   go_wp2_with fail
   go_at_call 53
   have HC := mark_FieldS S16.out 3 (a := x.f_Record.a) (c := x.f_Record.c) (xs := x.f_Record.l) rfl m5' HFW5.out (by omega) (by have := HS5.out; have := bd5.2; have := HM6.out; omega)
   rw [← HS5.out, ← HM6.out] at HC
   refine HC.mono ?_
   clear HC
   rintro e w8 ⟨rfl, hS⟩
   clear q5
   have S17 := Lib.hid (show Sl.Sep W _ [_, _, _, Bag.bag (rs_Field x.f_Record.a x.f_Record.c (mks em_Field cnt_Field m5' x.f_Record.l))] from hS)
   clear S16
   clear hS
   go_upto_region 15 with fail
   have HMT := Lib.hid (fun w' => L5.markText_any m6' (by omega) (by omega) w')
   go_wp2_with fail
   go_at_call 52
   refine (HMT.out _).mono ?_
   rintro e w9 ⟨rfl, hb⟩
   have S18 := Lib.hid (S17.out.keep hb)
   clear S17
   clear hb
   clear HMT
   have q6 : World.cell? w9 ⟨g, j * 7 + 6, none⟩ = some (.string x.f_Field) := by rw [(Sv.own_at S18.out 0 rfl).cell (j * 7 + 6) (by rw [List.length_append, HDL.out]; simp <;> omega)]; simp [List.getElem_append, HDL.out]
   have z6 := (Sv.own_at S18.out 0 rfl).free (j * 7 + 6)
   go_wp2_with fail
   try simp only [← HM7.out]
   clear q6 z6
   have HOV := Lib.hid (show Run.over (D0 ++ (.int .i64 m :: .string (markT m1') :: .int .i64 m2' :: .int .i64 m3' :: .string (markT m4') :: .slice x.f_Record.a x.f_Record.l.length x.f_Record.c :: .string x.f_Field :: R0)) (j * 7 + 6) [.string (markT m6')] = D0 ++ (.int .i64 m :: .string (markT m1') :: .int .i64 m2' :: .int .i64 m3' :: .string (markT m4') :: .slice x.f_Record.a x.f_Record.l.length x.f_Record.c :: .string (markT m6') :: R0) from by rw [show D0 ++ (.int .i64 m :: .string (markT m1') :: .int .i64 m2' :: .int .i64 m3' :: .string (markT m4') :: .slice x.f_Record.a x.f_Record.l.length x.f_Record.c :: .string x.f_Field :: R0) = (D0 ++ ([.int .i64 m, .string (markT m1'), .int .i64 m2', .int .i64 m3', .string (markT m4'), .slice x.f_Record.a x.f_Record.l.length x.f_Record.c] : List Value)) ++ ([.string x.f_Field] ++ (R0)) from by simp, Run.over_mid (D0 ++ ([.int .i64 m, .string (markT m1'), .int .i64 m2', .int .i64 m3', .string (markT m4'), .slice x.f_Record.a x.f_Record.l.length x.f_Record.c] : List Value)) (R0) [.string (markT m6')] [.string x.f_Field] (j * 7 + 6) (by simp [HDL.out]) rfl]; simp)
   have S19 := Lib.hid (show Sl.Sep W (w9.setCell ⟨g, j * 7 + 6, none⟩ (.string (markT m6'))) [Sv.ownV 36 7 (some ⟨g, 0, none⟩) c N (D0 ++ (.int .i64 m :: .string (markT m1') :: .int .i64 m2' :: .int .i64 m3' :: .string (markT m4') :: .slice x.f_Record.a x.f_Record.l.length x.f_Record.c :: .string (markT m6') :: R0)), Bag.bag (rws_Op (mks em_Op cnt_Op k (xs.take j)) ++ rws_Op (xs.drop (j + 1))), Run.restL W w fps, Bag.bag (rs_Field x.f_Record.a x.f_Record.c (mks em_Field cnt_Field m5' x.f_Record.l))] from (by have h := Run.put_run S18.out 0 rfl (j * 7 + 6) [.string (markT m6')] (by rw [List.length_append, HDL.out]; simp <;> omega); rw [HOV.out] at h; exact h))
   clear S18
   clear HOV
   generalize (w9.setCell ⟨g, j * 7 + 6, none⟩ (.string (markT m6'))) = w10 at S19 ⊢
   have HEM := Lib.hid (show rw_Op (em_Op m x) = (rs_Field x.f_Record.a x.f_Record.c (mks em_Field cnt_Field m5' x.f_Record.l)) from by first | rfl | (simp only [HM7.out, HM6.out, HM5.out, HM4.out, HM3.out, HM2.out, HM1.out, HS5.out]; rfl))
   have S20 := Lib.hid (show Sl.Sep W _ [_, _, _, Bag.bag (rw_Op (em_Op m x))] from (by rw [HEM.out]; exact S19.out))
   clear S19
   have S21 := Lib.hid (show Sl.Sep W _ [_, Bag.bag ((rws_Op (mks em_Op cnt_Op k (xs.take j)) ++ rws_Op (xs.drop (j + 1))) ++ (rw_Op (em_Op m x))), _, Bag.bag ([])] from Bag.bag_join S20.out 1 3 (by decide) rfl rfl)
   clear S20
   have S22 := Lib.hid (show Sl.Sep W _ [_, _, _] from Bag.take S21.out [0, 1, 2] (by rfl) (by decide))
   clear S21
   have S23 := Lib.hid (show Sl.Sep W _ [Sv.ownV 36 7 (some ⟨g, 0, none⟩) c N (D0 ++ (.int .i64 m :: .string (markT m1') :: .int .i64 m2' :: .int .i64 m3' :: .string (markT m4') :: .slice x.f_Record.a x.f_Record.l.length x.f_Record.c :: .string (markT m6') :: R0)), Bag.bag (rws_Op (mks em_Op cnt_Op k (xs.take (j + 1))) ++ rws_Op (xs.drop (j + 1))), Run.restL W w fps] from (by rw [HMN.out, rws_Op_eq, rws_Op_eq]; have h := S22.out; rw [rws_Op_eq, rws_Op_eq] at h; exact Bag.bag_perm h 1 rfl (flat_back _ _ _)))
   clear S22
   have HROW := Lib.hid (show ((mks em_Op cnt_Op k (xs.take (j + 1))) ++ xs.drop (j + 1)).flatMap cl_Op = D0 ++ (.int .i64 m :: .string (markT m1') :: .int .i64 m2' :: .int .i64 m3' :: .string (markT m4') :: .slice x.f_Record.a x.f_Record.l.length x.f_Record.c :: .string (markT m6') :: R0) from by rw [HMN.out, List.flatMap_append, List.flatMap_append, ← HR0.out, ← HD0.out, List.append_assoc, List.flatMap_cons, List.flatMap_nil, List.append_nil]; simp only [HM7.out, HM6.out, HM5.out, HM4.out, HM3.out, HM2.out, HM1.out, HS5.out]; unfold cl_Op em_Op; simp only [mks_len]; rfl)
   have S24 := Lib.hid (show Sl.Sep W _ [Sv.ownV 36 7 (some ⟨g, 0, none⟩) c N (((mks em_Op cnt_Op k (xs.take (j + 1))) ++ xs.drop (j + 1)).flatMap cl_Op), _, _] from (by rw [HROW.out]; exact S23.out))
   clear S23
   go_roundw
   case rel => exact ⟨j + 1, m7', by omega, by go_num, by first | rfl | go_num, by omega, by omega, And.intro (by have h1 := HFT.out; have h2 := HCX.out; have h3 := HM.out; have := HM1.out; have := HM2.out; have := HM3.out; have := HM4.out; have := HM5.out; have := HM6.out; have := HM7.out; omega) S24.out⟩
   case measure => simp [intOf]; omega
  ·
   skip
   obtain rfl : j = N := by omega
   have hT : xs.take j = xs := List.take_of_length_le (by have := HN.out; omega)
   have hD : xs.drop j = [] := List.drop_of_length_le (by have := HN.out; omega)
   have HT := Lib.hid hT
   have HD := Lib.hid hD
   clear hT hD
   have S7 := Lib.hid (show Sl.Sep W _ [Sv.ownV 36 7 (some ⟨g, 0, none⟩) c j ((mks em_Op cnt_Op k xs).flatMap cl_Op), Bag.bag (rws_Op (mks em_Op cnt_Op k xs)), Run.restL W w fps] from (by have h := S6.out; rw [HT.out, HD.out, List.append_nil, ← rws_Op_app, List.append_nil] at h; exact h))
   clear S6
   have S8 := Lib.hid (show Sl.Sep W _ [Bag.bag ([row_Op (some ⟨g, 0, none⟩) c (mks em_Op cnt_Op k xs)]), _, _] from Bag.bag_of_one S7.out 0 (r := row_Op (some ⟨g, 0, none⟩) c (mks em_Op cnt_Op k xs)) (by unfold RowS.res row_Op; dsimp only; rw [mks_len, ← HN.out]; rfl))
   clear S7
   have S9 := Lib.hid (show Sl.Sep W _ [Bag.bag ([row_Op (some ⟨g, 0, none⟩) c (mks em_Op cnt_Op k xs)] ++ (rws_Op (mks em_Op cnt_Op k xs))), Bag.bag ([]), _] from Bag.bag_join S8.out 0 1 (by decide) rfl rfl)
   clear S8
   have S10 := Lib.hid (show Sl.Sep W _ [_, _] from Bag.take S9.out [0, 2] (by rfl) (by decide))
   clear S9
   go_wp2_with fail
   go_ret
   exact ⟨by have h := HM.out; rw [HT.out] at h; rw [← h] <;> rfl, S10.out⟩
theorem mark_OpS {W w : World} {rs : List Res} (h : Sl.Sep W w rs) (i : Nat) {a : Option Addr} {c : Nat} {xs : List Y_Op} (hi : rs[i]? = some (bag (rs_Op a c xs))) (k : Int) (hf : wsum wt_Op (coS_Op xs) ≤ 1125899906842624) (hk0 : 0 < k) (hk1 : k + (fsum cnt_Op xs : Int) ≤ 2305843009213693952) :
  Calls Try.prog 22 #[.slice a xs.length c, .int .i64 k] w fun e w' => e = .returned (.int .i64 (k + (fsum cnt_Op xs : Int))) ∧ Sl.Sep W w' (rs.set i (bag (rs_Op a c (mks em_Op cnt_Op k xs)))) :=
 (mark_OpS_sep a c xs k W w (Run.restL_start h i hi) hf hk0 hk1).mono fun _ _ ⟨he, hs⟩ => ⟨he, Run.restL_back h i hi hs (rs_Op_fp a c xs k)⟩
set_option maxHeartbeats 8000000 in
theorem held_OpS (a : Option Addr) (c : Nat) (xs : List Y_Op) (k : Int) (hf : wsum wt_Op (coS_Op xs) ≤ 1125899906842624) (hk0 : 0 < k) (hk1 : k + (fsum cnt_Op xs : Int) ≤ 2305843009213693952) (w : World) (hr : Reads w w.heap.size a ((mks em_Op cnt_Op k xs).flatMap cl_Op)) (hx : RowsRd w w.heap.size (rws_Op (mks em_Op cnt_Op k xs))) :
  Calls Try.prog 33 #[.slice a xs.length c, .int .i64 k] w fun e w' => e = .returned (.int .i64 (k + (fsum cnt_Op xs : Int))) ∧ Below w.heap.size w w' := by
 have HF := Lib.hid hf
 have hl : xs.length ≤ 1125899906842624 := by have := wsum_len wt_Op (coS_Op xs); rw [coS_Op_eq, List.length_map] at this; rw [coS_Op_eq] at hf; omega
 clear hf
 have HR := Lib.hid (fun w' (h : Below w.heap.size w w') => hr.below h)
 have HX := Lib.hid (fun w' (h : Below w.heap.size w w') => (hx.below h).more h.size)
 obtain ⟨N, hN⟩ : ∃ n, n = xs.length := ⟨_, rfl⟩
 rw [← hN] at hl ⊢
 have hl' : (N : Int) ≤ 1125899906842624 := by omega
 have HN := Lib.hid hN
 have HK1 := Lib.hid hk1
 have hk2 : k ≤ 2305843009213693952 := by omega
 clear hN hr hx hk1
 have S1 := Lib.hid (show Sl.Sep w w [] from Sl.Sep.start w)
 go_enter Try.func33, Try.ntmps33
 go_wp2_with fail
 go_loopw [1, 5] (fun v i wr => ∃ (j : Nat) (m : Int), j ≤ N ∧ i = .int .i64 j ∧ v = .int .i64 m ∧ k ≤ m ∧ m ≤ 2305843009213693952 ∧ Hid (m = k + (fsum cnt_Op (xs.take j) : Int) ∧ Sl.Sep w wr [])) (fun _ i _ => N - (intOf i).toNat)
 case atStart => exact ⟨0, k, Nat.zero_le _, rfl, rfl, by omega, by omega, And.intro (by rw [List.take_zero, fsum_nil]; omega) S1.out⟩
 case round =>
  obtain ⟨j, m, hj, rfl, rfl, hm0, hm1, hrel⟩ := hrel
  have HM := Lib.hid hrel.out.1
  have S2 := Lib.hid hrel.out.2
  clear hrel S1
  by_cases hlt : (j : Int) < (N : Int)
  ·
   skip
   have hjl : j < xs.length := by have := HN.out; omega
   obtain ⟨x, hx⟩ : ∃ x, xs[j]? = some x := ⟨_, List.getElem?_eq_getElem hjl⟩
   have HFT := Lib.hid (fsum_take (f := cnt_Op) hx)
   have hfa := fsum_at (f := cnt_Op) hx
   have hcx : cnt_Op x = 1 + (1 + (1 + (1 + (1 + (fsum cnt_Field x.f_Record.l + (1)))))) := rfl
   have hmx : (mks em_Op cnt_Op k xs)[j]? = some (em_Op m x) := by rw [mks_at em_Op cnt_Op k hx, ← HM.out]
   obtain ⟨ad, e'⟩ := el_some cl_Op_len (by decide) (HR.out _ S2.out.old) (List.getElem?_eq_some_iff.1 hmx).1
   subst e'
   have HK := fun w' (h : Below w.heap.size w w') => el7 cl_Op_len (HR.out _ h) hmx rfl
   dsimp only [em_Op] at HK
   have hwm : wt_Op (co_Op x) + 1 ≤ 1125899906842624 := by have h1 := wsum_mem (f := wt_Op) (List.mem_map.2 ⟨x, List.mem_of_getElem? hx, rfl⟩ : co_Op x ∈ xs.map co_Op); have h2 := HF.out; rw [coS_Op_eq] at h2; omega
   have HFW5 := Lib.hid (show wsum wt_Field (coS_Field x.f_Record.l) ≤ 1125899906842624 from by have h2 : wt_Op (co_Op x) = x.f_Store.size + (x.f_Key.text.size + (wsum wt_Field (coS_Field x.f_Record.l) + (x.f_Field.size))) := rfl; omega)
   clear hwm
   obtain ⟨s5, hs5⟩ : ∃ u, u = fsum cnt_Field x.f_Record.l := ⟨_, rfl⟩
   rw [← hs5] at hcx
   have hmc : m + (cnt_Op x : Int) ≤ 2305843009213693952 := by have := HM.out; have := HK1.out; omega
   have HCX := Lib.hid hcx
   have hcx' : (cnt_Op x : Int) = 1 + 1 + 1 + 1 + 1 + (s5 : Int) + 1 := by omega
   rw [hcx'] at hmc
   clear hcx' hcx hfa
   obtain ⟨m1', hm⟩ : ∃ u : Int, u = m + 1 := ⟨_, rfl⟩
   have bd0 : 0 < m1' ∧ m1' ≤ 2305843009213693952 := by omega
   have bl0 : m ≤ m1' := by omega
   have HM1 := Lib.hid hm
   have hme1 := hm
   clear hm
   obtain ⟨m2', hm⟩ : ∃ u : Int, u = m1' + 1 := ⟨_, rfl⟩
   have bd1 : 0 < m2' ∧ m2' ≤ 2305843009213693952 := by omega
   have bl1 : m1' ≤ m2' := by omega
   have HM2 := Lib.hid hm
   have hme2 := hm
   clear hm
   obtain ⟨m3', hm⟩ : ∃ u : Int, u = m2' + 1 := ⟨_, rfl⟩
   have bd2 : 0 < m3' ∧ m3' ≤ 2305843009213693952 := by omega
   have bl2 : m2' ≤ m3' := by omega
   have HM3 := Lib.hid hm
   have hme3 := hm
   clear hm
   obtain ⟨m4', hm⟩ : ∃ u : Int, u = m3' + 1 := ⟨_, rfl⟩
   have bd3 : 0 < m4' ∧ m4' ≤ 2305843009213693952 := by omega
   have bl3 : m3' ≤ m4' := by omega
   have HM4 := Lib.hid hm
   have hme4 := hm
   clear hm
   obtain ⟨m5', hm⟩ : ∃ u : Int, u = m4' + 1 := ⟨_, rfl⟩
   have bd4 : 0 < m5' ∧ m5' ≤ 2305843009213693952 := by omega
   have bl4 : m4' ≤ m5' := by omega
   have HM5 := Lib.hid hm
   have hme5 := hm
   clear hm
   obtain ⟨m6', hm⟩ : ∃ u : Int, u = m5' + (s5 : Int) := ⟨_, rfl⟩
   have bd5 : 0 < m6' ∧ m6' ≤ 2305843009213693952 := by omega
   have bl5 : m5' ≤ m6' := by omega
   have HM6 := Lib.hid hm
   have hme6 := hm
   clear hm
   obtain ⟨m7', hm⟩ : ∃ u : Int, u = m6' + 1 := ⟨_, rfl⟩
   have bd6 : 0 < m7' ∧ m7' ≤ 2305843009213693952 := by omega
   have bl6 : m6' ≤ m7' := by omega
   have HM7 := Lib.hid hm
   have hme7 := hm
   clear hm
   have HRX := fun w' (h : Below w.heap.size w w') => rd_el (rw_ := rw_Op) (by rw [← rws_Op_eq]; exact HX.out w' h) hmx
   have hpt5 : rw_Op (em_Op m x) = (rs_Field x.f_Record.a x.f_Record.c (mks em_Field cnt_Field (((((m + 1) + 1) + 1) + 1) + 1) x.f_Record.l)) := rfl
   have HD5 := fun w' (h : Below w.heap.size w w') => (show RowsRd w' w'.heap.size (rs_Field x.f_Record.a x.f_Record.c (mks em_Field cnt_Field (((((m + 1) + 1) + 1) + 1) + 1) x.f_Record.l)) from (by have h1 := HRX w' h; rw [hpt5] at h1; exact h1))
   try simp only [← hs5] at HK HD5
   try simp only [mks_len] at HK
   try simp only [← hme1] at HK HD5
   try simp only [← hme2] at HK HD5
   try simp only [← hme3] at HK HD5
   try simp only [← hme4] at HK HD5
   try simp only [← hme5] at HK HD5
   try simp only [← hme6] at HK HD5
   try simp only [← hme7] at HK HD5
   have HC5 := fun w' (h : Below w.heap.size w w') => held_FieldS x.f_Record.a x.f_Record.c x.f_Record.l m5' HFW5.out (by omega) (by have := bd5.2; omega) w' (rd_head (HD5 w' h)).reads (rd_tail (HD5 w' h))
   rw [← hs5, ← hme6] at HC5
   replace HC5 := Lib.hid HC5
   obtain ⟨tt1, htt⟩ : ∃ t, markT m1' = t := ⟨_, rfl⟩
   have HMT1 := fun w' => L5.markText_any m1' (by omega) (by omega) w'
   rw [htt] at HMT1
   simp only [htt] at HK
   replace HMT1 := Lib.hid HMT1
   clear htt
   obtain ⟨tt4, htt⟩ : ∃ t, markT m4' = t := ⟨_, rfl⟩
   have HMT4 := fun w' => L5.markText_any m4' (by omega) (by omega) w'
   rw [htt] at HMT4
   simp only [htt] at HK
   replace HMT4 := Lib.hid HMT4
   clear htt
   obtain ⟨tt6, htt⟩ : ∃ t, markT m6' = t := ⟨_, rfl⟩
   have HMT6 := fun w' => L5.markText_any m6' (by omega) (by omega) w'
   rw [htt] at HMT6
   simp only [htt] at HK
   replace HMT6 := Lib.hid HMT6
   clear htt
   replace HK := Lib.hid HK
   clear hmx hx hme1 hme2 hme3 hme4 hme5 hme6 hme7 hs5 HD5 HRX hpt5 hmc
   obtain ⟨f0, f1, f2, f3, f4, f5, f6⟩ := HK.out _ S2.out.old
   go_upto_region 7 with fail
   try simp only [← HM1.out]
   clear f0 f1 f2 f3 f4 f5 f6
   refine wp_region_held_drew (S := (fun w' => (w'.cell? (ad.add (j * 7)) = some (.int .i64 m) ∧ w'.cell? (⟨(ad.add (j * 7)).block, (ad.add (j * 7)).off + 1, none⟩) = some (.string tt1) ∧ w'.cell? (⟨(ad.add (j * 7)).block, (ad.add (j * 7)).off + 2, none⟩) = some (.int .i64 m2') ∧ w'.cell? (⟨(ad.add (j * 7)).block, (ad.add (j * 7)).off + 3, none⟩) = some (.int .i64 m3') ∧ w'.cell? (⟨(ad.add (j * 7)).block, (ad.add (j * 7)).off + 4, none⟩) = some (.string tt4) ∧ w'.cell? (⟨(ad.add (j * 7)).block, (ad.add (j * 7)).off + 5, none⟩) = some (.slice x.f_Record.a x.f_Record.l.length x.f_Record.c) ∧ w'.cell? (⟨(ad.add (j * 7)).block, (ad.add (j * 7)).off + 6, none⟩) = some (.string tt6)))) (by kernel_rfl) (HK.out _ (Bag.drew1 S2.out).old) (fun hS => ?_)
   have S3 := Lib.hid (Bag.drew1 S2.out)
   clear S2
   generalize World.drew _ = w1 at hS S3 ⊢
   refine tk 0 rfl ?_
   try simp only [zp0, zp1, zp2, zp3, zp4]
   refine tk 1 rfl ?_
   try simp only [zp0, zp1, zp2, zp3, zp4]
   refine tk 2 rfl ?_
   try simp only [zp0, zp1, zp2, zp3, zp4]
   refine tk 3 rfl ?_
   try simp only [zp0, zp1, zp2, zp3, zp4]
   refine tk 4 rfl ?_
   try simp only [zp0, zp1, zp2, zp3, zp4]
   refine tk 5 rfl ?_
   try simp only [zp0, zp1, zp2, zp3, zp4]
   refine Reg.one_op (i := 6) rfl (by kernel_rfl) (fun K hK => ?_)
   go_simp
   go_at_call 52
   refine (HMT1.out _).mono ?_
   rintro e w2 ⟨rfl, hb⟩
   have S4 := Lib.hid (S3.out.keep hb)
   clear S3
   clear hb
   go_wp2_with fail
   refine hK.out _ _ (HK.out _ S4.out.old) (fun hS => ?_)
   clear hK K
   try simp only [zp0, zp1, zp2, zp3, zp4]
   refine tk 7 rfl ?_
   try simp only [zp0, zp1, zp2, zp3, zp4]
   refine wpAnyH_done (by kernel_rfl) ?_ _
   obtain ⟨f0, f1, f2, f3, f4, f5, f6⟩ := HK.out _ S4.out.old
   go_upto_region 10 with fail
   try simp only [← HM2.out]
   go_upto_region 13 with fail
   try simp only [← HM3.out]
   go_upto_region 16 with fail
   try simp only [← HM4.out]
   clear f0 f1 f2 f3 f4 f5 f6
   refine wp_region_held_drew (S := (fun w' => (w'.cell? (ad.add (j * 7)) = some (.int .i64 m) ∧ w'.cell? (⟨(ad.add (j * 7)).block, (ad.add (j * 7)).off + 1, none⟩) = some (.string tt1) ∧ w'.cell? (⟨(ad.add (j * 7)).block, (ad.add (j * 7)).off + 2, none⟩) = some (.int .i64 m2') ∧ w'.cell? (⟨(ad.add (j * 7)).block, (ad.add (j * 7)).off + 3, none⟩) = some (.int .i64 m3') ∧ w'.cell? (⟨(ad.add (j * 7)).block, (ad.add (j * 7)).off + 4, none⟩) = some (.string tt4) ∧ w'.cell? (⟨(ad.add (j * 7)).block, (ad.add (j * 7)).off + 5, none⟩) = some (.slice x.f_Record.a x.f_Record.l.length x.f_Record.c) ∧ w'.cell? (⟨(ad.add (j * 7)).block, (ad.add (j * 7)).off + 6, none⟩) = some (.string tt6)))) (by kernel_rfl) (HK.out _ (Bag.drew1 S4.out).old) (fun hS => ?_)
   have S5 := Lib.hid (Bag.drew1 S4.out)
   clear S4
   generalize World.drew _ = w3 at hS S5 ⊢
   refine tk 0 rfl ?_
   try simp only [zp0, zp1, zp2, zp3, zp4]
   refine tk 1 rfl ?_
   try simp only [zp0, zp1, zp2, zp3, zp4]
   refine tk 2 rfl ?_
   try simp only [zp0, zp1, zp2, zp3, zp4]
   refine tk 3 rfl ?_
   try simp only [zp0, zp1, zp2, zp3, zp4]
   refine tk 4 rfl ?_
   try simp only [zp0, zp1, zp2, zp3, zp4]
   refine tk 5 rfl ?_
   try simp only [zp0, zp1, zp2, zp3, zp4]
   refine tk 6 rfl ?_
   try simp only [zp0, zp1, zp2, zp3, zp4]
   refine Reg.one_op (i := 7) rfl (by kernel_rfl) (fun K hK => ?_)
   go_simp
   go_at_call 52
   refine (HMT4.out _).mono ?_
   rintro e w4 ⟨rfl, hb⟩
   have S6 := Lib.hid (S5.out.keep hb)
   clear S5
   clear hb
   go_wp2_with fail
   refine hK.out _ _ (HK.out _ S6.out.old) (fun hS => ?_)
   clear hK K
   try simp only [zp0, zp1, zp2, zp3, zp4]
   refine tk 8 rfl ?_
   try simp only [zp0, zp1, zp2, zp3, zp4]
   refine wpAnyH_done (by kernel_rfl) ?_ _
   obtain ⟨f0, f1, f2, f3, f4, f5, f6⟩ := HK.out _ S6.out.old
   go_upto_region 19 with fail
   try simp only [← HM5.out]
   go_wp2_with fail
   go_at_call 65
   refine (HC5.out _ S6.out.old).mono ?_
   rintro e w5 ⟨rfl, hb⟩
   clear f0 f1 f2 f3 f4 f5 f6
   have S7 := Lib.hid (S6.out.keep hb)
   clear S6
   clear hb
   obtain ⟨f0, f1, f2, f3, f4, f5, f6⟩ := HK.out _ S7.out.old
   have hneg5 : ¬ (m6' < 0) := by omega
   go_upto_region 22 with fail
   clear f0 f1 f2 f3 f4 f5 f6
   refine wp_region_held_drew (S := (fun w' => (w'.cell? (ad.add (j * 7)) = some (.int .i64 m) ∧ w'.cell? (⟨(ad.add (j * 7)).block, (ad.add (j * 7)).off + 1, none⟩) = some (.string tt1) ∧ w'.cell? (⟨(ad.add (j * 7)).block, (ad.add (j * 7)).off + 2, none⟩) = some (.int .i64 m2') ∧ w'.cell? (⟨(ad.add (j * 7)).block, (ad.add (j * 7)).off + 3, none⟩) = some (.int .i64 m3') ∧ w'.cell? (⟨(ad.add (j * 7)).block, (ad.add (j * 7)).off + 4, none⟩) = some (.string tt4) ∧ w'.cell? (⟨(ad.add (j * 7)).block, (ad.add (j * 7)).off + 5, none⟩) = some (.slice x.f_Record.a x.f_Record.l.length x.f_Record.c) ∧ w'.cell? (⟨(ad.add (j * 7)).block, (ad.add (j * 7)).off + 6, none⟩) = some (.string tt6)))) (by kernel_rfl) (HK.out _ (Bag.drew1 S7.out).old) (fun hS => ?_)
   have S8 := Lib.hid (Bag.drew1 S7.out)
   clear S7
   generalize World.drew _ = w6 at hS S8 ⊢
   refine tk 0 rfl ?_
   try simp only [zp0, zp1, zp2, zp3, zp4]
   refine tk 1 rfl ?_
   try simp only [zp0, zp1, zp2, zp3, zp4]
   refine tk 2 rfl ?_
   try simp only [zp0, zp1, zp2, zp3, zp4]
   refine tk 3 rfl ?_
   try simp only [zp0, zp1, zp2, zp3, zp4]
   refine tk 4 rfl ?_
   try simp only [zp0, zp1, zp2, zp3, zp4]
   refine tk 5 rfl ?_
   try simp only [zp0, zp1, zp2, zp3, zp4]
   refine Reg.one_op (i := 6) rfl (by kernel_rfl) (fun K hK => ?_)
   go_simp
   go_at_call 52
   refine (HMT6.out _).mono ?_
   rintro e w7 ⟨rfl, hb⟩
   have S9 := Lib.hid (S8.out.keep hb)
   clear S8
   clear hb
   go_wp2_with fail
   refine hK.out _ _ (HK.out _ S9.out.old) (fun hS => ?_)
   clear hK K
   try simp only [zp0, zp1, zp2, zp3, zp4]
   refine tk 7 rfl ?_
   try simp only [zp0, zp1, zp2, zp3, zp4]
   refine wpAnyH_done (by kernel_rfl) ?_ _
   obtain ⟨f0, f1, f2, f3, f4, f5, f6⟩ := HK.out _ S9.out.old
   go_wp2_with fail
   try simp only [← HM7.out]
   go_roundw
   case rel => exact ⟨j + 1, m7', by omega, by go_num, by first | rfl | go_num, by omega, by omega, And.intro (by have h1 := HFT.out; have h2 := HCX.out; have h3 := HM.out; have := HM1.out; have := HM2.out; have := HM3.out; have := HM4.out; have := HM5.out; have := HM6.out; have := HM7.out; omega) S9.out⟩
   case measure => simp [intOf]; omega
  ·
   skip
   obtain rfl : j = N := by omega
   have hT : xs.take j = xs := List.take_of_length_le (by have := HN.out; omega)
   have HT := Lib.hid hT
   clear hT
   go_wp2_with fail
   go_ret
   exact ⟨by have h := HM.out; rw [HT.out] at h; rw [← h] <;> rfl, S2.out.old⟩
end Go.Proofs.Ythiidcflpgbogaa.V

namespace Go.Proofs.Ythiidcflpgbogaa.L9
open V L6
open L4 (K isK cmpK R)
open L5 (F isR isN Small)
open Go.Op (bytesLess)
open Go.ChangeShapes Go.WideShapes Go.ChangeAt Go.RowKit Mem Sl Sv Bag

def fldO (o : X_Op) : Bool := if o.f_Kind = 6 then isN o.f_Field.data.toList else o.f_Field.toList == []
def keyO (o : X_Op) : Bool := o.f_Kind == 5 || isK o.f_Key
def isO (o : X_Op) : Bool := L1.inB o.f_Kind 1 6 && (isN o.f_Store.data.toList && (keyO o && (isR o.f_Record && fldO o)))
theorem inB_no {k : Int} (h1 : k ≠ 1) (h2 : k ≠ 2) (h3 : k ≠ 3) (h4 : k ≠ 4) (h5 : k ≠ 5) (h6 : k ≠ 6) : L1.inB k 1 6 = false := by
 rw [L1.inB_false]; omega

structure FitO (o : X_Op) : Prop where
 store : o.f_Store.size ≤ 281474976710656
 text : o.f_Key.text.size ≤ 1099511627776
 len : o.f_Record.length ≤ 1048576
 small : Small o.f_Record
 field : o.f_Field.size ≤ 281474976710656
theorem len_of {α : Type} {xs : List α} {k : Nat} {x : α} (h : xs[k]? = some x) : k < xs.length := (List.getElem?_eq_some_iff.1 h).1
theorem val_of {α : Type} {xs : List α} {k : Nat} {x : α} (h : xs[k]? = some x) : xs[k]'(len_of h) = x := (List.getElem?_eq_some_iff.1 h).2
theorem coS_len {os : List Y_Op} : (coS_Op os).length = os.length := by rw [coS_Op_eq, List.length_map]
theorem coS_at {os : List Y_Op} {k : Nat} {x : Y_Op} (h : os[k]? = some x) : (coS_Op os)[k]? = some (co_Op x) := by rw [coS_Op_eq, List.getElem?_map, h]; rfl
section
variable {w : World} {B : Nat} {z : Y_Op}
theorem rdOs {os : List Y_Op} {k : Nat} {x : Y_Op} (h : RowsRd w B (rws_Op os)) (hx : os[k]? = some x) : RowsRd w B (rw_Op x) := rd_el (rw_ := rw_Op) h hx
theorem rdO (h : RowsRd w B (rw_Op z)) : Reads w B z.f_Record.a (L5.cellsF z.f_Record.l) := (rd_head h).reads
end
end Go.Proofs.Ythiidcflpgbogaa.L9

namespace Go.Proofs.Ythiidcflpgbogaa.V
open Go.ChangeShapes Go.WideShapes Go.ChangeAt Go.RowKit Mem Sl Sv Bag
structure Y_OpZ where
 a : Option Addr
 c : Nat
 xs : List Y_Op
def co_OpZ (z : Y_OpZ) : List X_Op := coS_Op z.xs
def wt_OpZ (c : List X_Op) : Nat := wsum wt_Op c
def vv_OpZ (z : Y_OpZ) : Value := .slice z.a z.xs.length z.c
def rw_OpZ (z : Y_OpZ) : List RowS := rs_Op z.a z.c z.xs
def md_OpZ (k : Int) (z : Y_OpZ) : Y_OpZ := ⟨z.a, z.c, mks em_Op cnt_Op k z.xs⟩
def ct_OpZ (z : Y_OpZ) : Nat := fsum cnt_Op z.xs
theorem ctS_OpZ (z : Y_OpZ) : ct_OpZ z ≤ 64 * (wt_OpZ (co_OpZ z) + 1) := by
 have h := cnt_sum cntS_Op z.xs
 unfold ct_OpZ wt_OpZ co_OpZ
 rw [coS_Op_eq]
 omega
theorem rd_OpZ {w : World} {B : Nat} {z : Y_OpZ} (h : RowsRd w B (rw_OpZ z)) : Reads w B z.a (z.xs.flatMap cl_Op) := (rd_head h).reads
theorem rx_OpZ {w : World} {B : Nat} {z : Y_OpZ} (h : RowsRd w B (rw_OpZ z)) : RowsRd w B (rws_Op z.xs) := rd_tail h
section
variable {H : Type} {enc : TypeId × Value → H} {W : World} {b : Nat} {sp : Nat → Bool} {hd : Bool}
end
theorem eq_OpZ (y z : Y_OpZ) (hc : co_OpZ y = co_OpZ z) (hf : wt_OpZ (co_OpZ y) ≤ 1125899906842624) (w : World) (hr : RowsRd w w.heap.size (rw_OpZ y)) (hr2 : RowsRd w w.heap.size (rw_OpZ z)) : Calls Try.prog 21 #[vv_OpZ y, vv_OpZ z] w fun e w' => e = .returned (.bool true) ∧ Below w.heap.size w w' :=
 eq_OpS y.a z.a y.c z.c y.xs z.xs hc hf w (rd_OpZ hr) (rx_OpZ hr) (rd_OpZ hr2) (rx_OpZ hr2)
theorem mark_OpZ {W w : World} {rs : List Res} (h : Sl.Sep W w rs) (i : Nat) {z : Y_OpZ} (hi : rs[i]? = some (bag (rw_OpZ z))) (k : Int) (hf : wt_OpZ (co_OpZ z) ≤ 1125899906842624) (hk0 : 0 < k) (hk1 : k + (ct_OpZ z : Int) ≤ 2305843009213693952) :
  Calls Try.prog 22 #[vv_OpZ z, .int .i64 k] w fun e w' => e = .returned (.int .i64 (k + (ct_OpZ z : Int))) ∧ Sl.Sep W w' (rs.set i (bag (rw_OpZ (md_OpZ k z)))) :=
 mark_OpS h i hi k hf hk0 hk1
theorem held_OpZ (z : Y_OpZ) (k : Int) (hf : wt_OpZ (co_OpZ z) ≤ 1125899906842624) (hk0 : 0 < k) (hk1 : k + (ct_OpZ z : Int) ≤ 2305843009213693952) (w : World) (hr : RowsRd w w.heap.size (rw_OpZ (md_OpZ k z))) :
  Calls Try.prog 33 #[vv_OpZ z, .int .i64 k] w fun e w' => e = .returned (.int .i64 (k + (ct_OpZ z : Int))) ∧ Below w.heap.size w w' :=
 held_OpS z.a z.c z.xs k hf hk0 hk1 w (rd_OpZ hr) (rx_OpZ hr)
end Go.Proofs.Ythiidcflpgbogaa.V

namespace Go.Proofs.Ythiidcflpgbogaa.L5
open L2
open L4 (toU toI toI_toU)

def rdF (l : List Int) (off : Int) : Option (F × Int) :=
 if rbB l off 8 && rdB l (rbE l off 8) then some (⟨⟨(toU (rbL l off 8)).toArray⟩, rdN l (rbE l off 8)⟩, rdE l (rbE l off 8)) else none
def rdFs (l : List Int) : Int → Nat → Option (List F × Int)
 | off, 0 => some ([], off)
 | off, k + 1 => match rdF l off with
  | none => none
  | some (f, e) => match rdFs l e k with
   | none => none
   | some (fs, e2) => some (f :: fs, e2)
def decR (l : List Int) : Option (List F) :=
 if rdB l 0 && decide (rdN l 0 ≤ 6) then
  match rdFs l (rdE l 0) (rdN l 0).toNat with
  | none => none
  | some (fs, e) => if isR fs && decide (e = l.length) then some fs else none
 else none
theorem drop_split (l : List Int) (o m : Nat) : l.drop o = (l.drop o).take m ++ l.drop (o + m) := by
 rw [← List.drop_drop, List.take_append_drop]
theorem byt_drop {l : List Int} (h : Byt l) (o m : Nat) : Byt ((l.drop o).take m) := fun x hx => h x (List.mem_of_mem_drop (List.mem_of_mem_take hx))
theorem rdF_out {l : List Int} (hl : Byt l) {off : Int} {f : F} {e : Int} (h : rdF l off = some (f, e)) : 0 ≤ off ∧ off ≤ e ∧ e ≤ l.length ∧ l.drop off.toNat = encF f ++ l.drop e.toNat := by
 unfold rdF at h
 cases hb : rbB l off 8 with
 | false => rw [hb] at h; cases h
 | true =>
  cases hd : rdB l (rbE l off 8) with
  | false => rw [hd, hb] at h; cases h
  | true =>
   rw [hd, hb] at h
   injection h with h
   injection h with hf he
   obtain ⟨y1, y2⟩ := rb_yes hb
   unfold rbB at hb
   simp only [Bool.and_eq_true, decide_eq_true_eq] at hb
   obtain ⟨⟨b1, b2⟩, b3⟩ := hb
   obtain ⟨s1, s2⟩ := rd_some b1
   obtain ⟨o1, o2, o3, o4, o5, o6, o7⟩ := rd_out hl s1
   obtain ⟨q1, q2⟩ := rd_some hd
   obtain ⟨p1, p2, p3, p4, p5, p6, p7⟩ := rd_out hl q1
   have hn : L3.strB f.name = (l.drop (rdE l off).toNat).take (rdN l off).toNat := by
    rw [← hf]
    show toI (toU (rbL l off 8)) = _
    rw [y1, toI_toU _ (byt_drop hl _ _)]
   have hln : ((L3.strB f.name).length : Int) = rdN l off := by
    rw [hn, List.length_take, List.length_drop]
    omega
   have hv : f.n = rdN l (rbE l off 8) := by rw [← hf]
   refine ⟨o1, by omega, by omega, ?_⟩
   have e1 := drop_split l off.toNat (rdE l off - off).toNat
   have e2 := drop_split l (off.toNat + (rdE l off - off).toNat) (rdN l off).toNat
   have e3 := drop_split l (off.toNat + (rdE l off - off).toNat + (rdN l off).toNat) (rdE l (rbE l off 8) - rbE l off 8).toNat
   rw [o7] at e1
   rw [show off.toNat + (rdE l off - off).toNat = (rdE l off).toNat by omega] at e1 e2 e3
   rw [← hn] at e2
   rw [show (rdE l off).toNat + (rdN l off).toNat = (rbE l off 8).toNat by omega] at e2 e3
   rw [p7, show (rbE l off 8).toNat + (rdE l (rbE l off 8) - rbE l off 8).toNat = e.toNat by omega] at e3
   rw [e1, e2, e3]
   unfold encF
   rw [hln, hv]
   simp only [List.append_assoc]
theorem rdFs_out {l : List Int} (hl : Byt l) : ∀ (k : Nat) (off : Int) (fs : List F) (e : Int), 0 ≤ off → off ≤ l.length → rdFs l off k = some (fs, e) → fs.length = k ∧ off ≤ e ∧ e ≤ l.length ∧ l.drop off.toNat = encB fs ++ l.drop e.toNat
 | 0, off, fs, e, h0, h1, h => by
  rw [rdFs] at h
  injection h with h
  injection h with h2 h3
  subst h2; subst h3
  exact ⟨rfl, Int.le_refl _, h1, by simp [encB]⟩
 | k + 1, off, fs, e, h0, h1, h => by
  rw [rdFs] at h
  cases hf : rdF l off with
  | none => rw [hf] at h; cases h
  | some p =>
   obtain ⟨f, e1⟩ := p
   rw [hf] at h
   simp only at h
   obtain ⟨_, a2, a3, a4⟩ := rdF_out hl hf
   cases hk : rdFs l e1 k with
   | none => rw [hk] at h; cases h
   | some q =>
    obtain ⟨gs, e2⟩ := q
    rw [hk] at h
    injection h with h
    injection h with h2 h3
    subst h2; subst h3
    obtain ⟨c1, c2, c3, c4⟩ := rdFs_out hl k e1 gs e2 (by omega) a3 hk
    refine ⟨by simp [c1], by omega, c3, ?_⟩
    rw [a4, c4]
    unfold encB
    rw [List.flatMap_cons, List.append_assoc]
theorem decR_out {l : List Int} (hl : Byt l) {fs : List F} (h : decR l = some fs) : isR fs = true ∧ encR fs = l := by
 unfold decR at h
 cases hb : rdB l 0 with
 | false => rw [hb] at h; cases h
 | true =>
  by_cases h6 : rdN l 0 ≤ 6
  ·
   rw [hb, decide_eq_true h6] at h
   obtain ⟨s1, s2⟩ := rd_some hb
   obtain ⟨o1, o2, o3, o4, o5, o6, o7⟩ := rd_out hl s1
   cases hk : rdFs l (rdE l 0) (rdN l 0).toNat with
   | none => rw [hk] at h; cases h
   | some q =>
    obtain ⟨gs, e⟩ := q
    rw [hk] at h
    simp only [Bool.and_self, if_true] at h
    cases hr : isR gs with
    | false => rw [hr] at h; cases h
    | true =>
     by_cases he : e = l.length
     ·
      rw [hr, decide_eq_true he] at h
      injection h with h
      subst h
      obtain ⟨c1, c2, c3, c4⟩ := rdFs_out hl _ _ _ _ (by omega) (by omega) hk
      refine ⟨hr, ?_⟩
      unfold encR
      rw [hr]
      have e1 := drop_split l 0 (rdE l 0).toNat
      rw [show (0 : Int).toNat = 0 from rfl, show (rdE l 0 - 0).toNat = (rdE l 0).toNat by rw [Int.sub_zero]] at o7
      rw [o7, Nat.zero_add, c4, he] at e1
      rw [show (gs.length : Int) = rdN l 0 by omega]
      simp at e1 ⊢
      exact e1.symm
     ·
      rw [hr, decide_eq_false he] at h; cases h
  ·
   rw [hb, decide_eq_false h6] at h; cases h
theorem rdF_enc (p t : List Int) (f : F) (hf : okF f = true) : rdF (p ++ (encF f ++ t)) p.length = some (f, (((p ++ encF f).length : Nat) : Int)) := by
 unfold okF at hf
 rw [Bool.and_eq_true] at hf
 obtain ⟨h1, h2⟩ := hf
 unfold isN at h1
 simp only [Bool.and_eq_true, decide_eq_true_eq] at h1
 obtain ⟨_, h3, h4⟩ := h1
 obtain ⟨n0, n1⟩ := L1.inB_true.mp h2
 obtain ⟨v, hv⟩ : ∃ v, v = L3.strB f.name := ⟨_, rfl⟩
 have hvl : v.length ≤ 8 := by rw [hv]; unfold L3.strB; rw [List.length_map]; exact h4
 have e0 : p ++ (encF f ++ t) = p ++ (enc v.length ++ (v ++ (enc f.n ++ t))) := by unfold encF; rw [← hv]; simp only [List.append_assoc]
 have a1 := rd_enc p (v ++ (enc f.n ++ t)) v.length (by omega) (by omega)
 rw [← e0] at a1
 have e1 : p ++ (encF f ++ t) = (p ++ enc v.length ++ v) ++ (enc f.n ++ t) := by rw [e0]; simp only [List.append_assoc]
 have a2 := rd_enc (p ++ enc v.length ++ v) t f.n n0 (by omega)
 rw [← e1] at a2
 obtain ⟨L, hL⟩ : ∃ L, L = p ++ (encF f ++ t) := ⟨_, rfl⟩
 have hLl : L.length = p.length + (enc v.length).length + v.length + (enc f.n).length + t.length := by rw [hL, e1]; simp only [List.length_append]; omega
 rw [← hL] at a1 a2 ⊢
 have b1 := rdN_of a1
 have b2 := rdE_of a1
 have b3 := rdB_of a1
 have hb : rbB L p.length 8 = true := by
  unfold rbB
  rw [b1, b2, b3]
  simp only [Bool.true_and, Bool.and_eq_true, decide_eq_true_eq]
  omega
 obtain ⟨y1, y2⟩ := rb_yes hb
 rw [b1, b2] at y1 y2
 have hE : rbE L p.length 8 = ((p ++ enc v.length ++ v).length : Nat) := by rw [y2]; simp only [List.length_append]; omega
 have hV : rbL L p.length 8 = v := by
  rw [y1, hL, e1, show ((p.length : Int) + ((enc v.length).length : Nat)).toNat = (p ++ enc v.length).length by rw [List.length_append]; omega]
  rw [List.append_assoc (p ++ enc v.length), List.drop_left, Int.toNat_natCast, List.take_left]
 rw [← hE] at a2
 have c1 := rdN_of a2
 have c2 := rdE_of a2
 have c3 := rdB_of a2
 unfold rdF
 rw [hb, c3, c1, c2, hV, hE]
 have hn : (⟨(toU v).toArray⟩ : ByteArray) = f.name := by
  rw [hv]
  show (⟨(toU (toI f.name.data.toList)).toArray⟩ : ByteArray) = f.name
  rw [L4.toU_toI]
 rw [hn]
 simp only [Bool.and_self, if_true, Option.some.injEq, Prod.mk.injEq, true_and]
 unfold encF
 rw [← hv]
 simp only [List.length_append]
 omega
theorem rdFs_enc : ∀ (fs : List F) (p t : List Int), (∀ f ∈ fs, okF f = true) → rdFs (p ++ (encB fs ++ t)) p.length fs.length = some (fs, (((p ++ encB fs).length : Nat) : Int))
 | [], p, t, _ => by simp [rdFs, encB]
 | f :: fs, p, t, h => by
  have e : p ++ (encB (f :: fs) ++ t) = p ++ (encF f ++ (encB fs ++ t)) := by unfold encB; rw [List.flatMap_cons, List.append_assoc]
  have e2 : p ++ (encF f ++ (encB fs ++ t)) = (p ++ encF f) ++ (encB fs ++ t) := by rw [List.append_assoc]
  have e3 : p ++ encB (f :: fs) = p ++ encF f ++ encB fs := by unfold encB; rw [List.flatMap_cons, List.append_assoc]
  rw [List.length_cons, rdFs, e, rdF_enc p _ f (h f (List.mem_cons_self ..))]
  simp only
  rw [e2, rdFs_enc fs (p ++ encF f) t (fun g hg => h g (List.mem_cons_of_mem _ hg)), e3]
theorem decR_enc {fs : List F} (h : isR fs = true) : decR (encR fs) = some fs := by
 have h6 := (isR_iff.1 h).2
 have hok : ∀ f ∈ fs, okF f = true := fun f hf => by
  obtain ⟨i, hi, rfl⟩ := List.getElem_of_mem hf
  exact ((isR_iff.1 h).1 i hi hi).1
 have e : encR fs = [] ++ (enc fs.length ++ encB fs) := by unfold encR; rw [h]; rfl
 have a1 := rd_enc [] (encB fs) fs.length (by omega) (by omega)
 rw [← e] at a1
 have b1 := rdN_of a1
 have b2 := rdE_of a1
 have b3 := rdB_of a1
 have a2 := rdFs_enc fs (enc fs.length) [] hok
 rw [show enc fs.length ++ (encB fs ++ []) = encR fs by rw [e]; simp] at a2
 simp only [List.length_nil, Int.natCast_zero, Int.zero_add] at b1 b2 b3
 unfold decR
 rw [b1, b2, b3, Int.toNat_natCast, a2, decide_eq_true (show (fs.length : Int) ≤ 6 by omega)]
 simp only [Bool.and_self, if_true]
 rw [h, decide_eq_true (show (((enc fs.length ++ encB fs).length : Nat) : Int) = ((encR fs).length : Nat) by rw [e]; rfl)]
 rfl
def RfMid (l : List Int) (off : Int) (n k : Nat) (acc : List F) (o : Int) : Prop := acc.length = k ∧ rdFs l off n = (rdFs l o (n - k)).map fun p => (acc ++ p.1, p.2)
theorem RfMid.start (l : List Int) (off : Int) (n : Nat) : RfMid l off n 0 [] off := ⟨rfl, by simp⟩
theorem RfMid.none {l : List Int} {off : Int} {n k : Nat} {acc : List F} {o : Int} (h : RfMid l off n k acc o) (hk : k < n) (hr : rdF l o = Option.none) : rdFs l off n = Option.none := by
 rw [h.2, show n - k = (n - (k + 1)) + 1 by omega, rdFs, hr]
 rfl
theorem RfMid.next {l : List Int} {off : Int} {n k : Nat} {acc : List F} {o e : Int} {f : F} (h : RfMid l off n k acc o) (hk : k < n) (hr : rdF l o = some (f, e)) : RfMid l off n (k + 1) (acc ++ [f]) e := by
 refine ⟨by simp [h.1], ?_⟩
 rw [h.2, show n - k = (n - (k + 1)) + 1 by omega, rdFs, hr]
 simp only
 cases rdFs l e (n - (k + 1)) with
 | none => rfl
 | some p => simp
theorem RfMid.done {l : List Int} {off : Int} {n : Nat} {acc : List F} {o : Int} (h : RfMid l off n n acc o) : rdFs l off n = some (acc, o) := by
 rw [h.2, Nat.sub_self, rdFs]
 simp
theorem rdF_no {l : List Int} {o : Int} (h : rbB l o 8 = false) : rdF l o = Option.none := by
 unfold rdF
 rw [h]
 rfl
theorem rdF_no2 {l : List Int} {o : Int} (h : rdB l (rbE l o 8) = false) : rdF l o = Option.none := by
 unfold rdF
 rw [h, Bool.and_false]
 rfl
theorem rdF_yes {l : List Int} {o : Int} (h1 : rbB l o 8 = true) (h2 : rdB l (rbE l o 8) = true) : rdF l o = some (⟨⟨(toU (rbL l o 8)).toArray⟩, rdN l (rbE l o 8)⟩, rdE l (rbE l o 8)) := by
 unfold rdF
 rw [h1, h2]
 rfl
def rrO (l : List Int) (off : Int) : Option (List F × Int) := if rdB l off && decide (rdN l off ≤ 6) then rdFs l (rdE l off) (rdN l off).toNat else none
def rrL (l : List Int) (off : Int) : List F := match rrO l off with | some p => p.1 | none => []
def rrE (l : List Int) (off : Int) : Int := match rrO l off with | some p => p.2 | none => 0
def rrB (l : List Int) (off : Int) : Bool := match rrO l off with | some p => isR p.1 | none => false
theorem rr_none {l : List Int} {off : Int} (h : rrO l off = none) : rrL l off = [] ∧ rrE l off = 0 ∧ rrB l off = false := by
 unfold rrL rrE rrB
 rw [h]
 exact ⟨rfl, rfl, rfl⟩
theorem rr_some {l : List Int} {off : Int} {p : List F × Int} (h : rrO l off = some p) : rrL l off = p.1 ∧ rrE l off = p.2 ∧ rrB l off = isR p.1 := by
 unfold rrL rrE rrB
 rw [h]
 exact ⟨rfl, rfl, rfl⟩
theorem decR_rr (l : List Int) : decR l = if rrB l 0 && decide (rrE l 0 = l.length) then some (rrL l 0) else none := by
 cases h : rrO l 0 with
 | none =>
  obtain ⟨a, b, c⟩ := rr_none h
  rw [c, Bool.false_and]
  unfold rrO at h
  unfold decR
  by_cases hb : (rdB l 0 && decide (rdN l 0 ≤ 6)) = true
  ·
   rw [if_pos hb] at h ⊢
   rw [h]
   rfl
  ·
   rw [if_neg hb]
   rfl
 | some p =>
  obtain ⟨a, b, c⟩ := rr_some h
  rw [a, b, c]
  unfold rrO at h
  unfold decR
  by_cases hb : (rdB l 0 && decide (rdN l 0 ≤ 6)) = true
  ·
   rw [if_pos hb] at h ⊢
   rw [h]
  ·
   rw [if_neg hb] at h
   cases h
end Go.Proofs.Ythiidcflpgbogaa.L5

namespace Go.Proofs.Ythiidcflpgbogaa.L5
open L4 (boxR push_box box_at)
open Go.ChangeShapes Go.WideShapes Go.ChangeAt Go.RowKit Mem Sl Ex L2 Sv

theorem wpList_append_v {P : Program} {W w : World} {rs : List Res} {e : TypeId} {k : Nat} {a : Option Addr} {c n : Nat} {xs : List Value} (S : Sep W w rs) (j : Nat) (hj : rs[j]? = some (ownV e k a c n xs))
  {ops : Array Oper} {rest : List Oper} {o : Oper} {act : Act} {Q : Exit → Act → World → Prop} (hgd : o.guard = none) (s x : Operand) (t : TypeId)
  (ho : o.op = .call { callee := .builtin .append, args := #[s, x], argTypes := #[t, t] })
  (i : TypeInfo) (z : Value) (bytes : Nat) (ht : P.underlying t = some (.slice e)) (hi : P.info? e = some i) (hz : i.zero = some z)
  (hsize : i.size = k) (hby : i.bytes = bytes) (hzs : z.cells.size = k) (hk : 0 < k) (n1 : Nat) (hs : act.eval s = .slice a n1 c) (hn : n1 = n)
  (B' : Nat) (A : Option Addr) (m m1 c' : Nat) (ys : List Value) (hx : act.eval x = .slice A m1 c') (hm : m1 = m) (hr : Reads w B' A ys) (hy : ys.length = m * k) (hone : ∀ u ∈ ys, u.oneCell' = true)
  (h63 : n + m ≤ maxLen) (hbytes : (n + m) * bytes ≤ 140737488355328)
  (h : ∀ a1 c1 w', Sep W w' (rs.set j (ownV e k a1 c1 (n + m) (xs ++ ys))) → wpList P ops Q rest (act.put o.dst (.slice a1 (n + m) c1)) w') : wpList P ops Q (o :: rest) act w := by
 subst hn
 subst hm
 refine wpList_plain hgd fun K hK => ?_
 obtain ⟨a1, c1, w', hrun, h2, h3, h4⟩ := run_append_rows (P := P) w 0 t o.type e i z k bytes ht hi hz hsize hby hzs hk a c n1 xs (own_at S j hj) B' A c' m1 ys hr hy hone h63 hbytes (Nat.zero_le _)
 unfold Oper.wp execOp
 simp only [ho, resolve, invoke, builtin, Sem.run_bind, Sem.run_pure, Result.andThen_ok, List.map_toArray, List.map_cons, List.map_nil, hs, hx, hrun]
 refine hK _ _ (h a1 c1 w' (Sd.put_new S j hj (Turned.of_grown h3) h2 fun b hb => ?_))
 have hb' : (Value.slice a1 (n1 + m1) c1).ownBlock = some b := by simpa [ownV] using hb
 rcases h4 b hb' with h5 | rfl
 ·
  exact .inl (by simp [ownV, h5])
 ·
  have := World.ownsRow.lt h2 _ hb'
  exact .inr ⟨Nat.le_refl _, this.2⟩
theorem sep_three {W w : World} {r0 r1 r2 : Res} {ts : List Res} (h : Sep W w (r0 :: r1 :: r2 :: ts)) : Sep W w [r0, r1, r2] :=
 sep_sub h (fun i => i) (fun i r hr => by
  match i, hr with
  | 0, hr => exact hr
  | 1, hr => exact hr
  | 2, hr => exact hr
  | i + 3, hr => simp at hr) (fun i j _ _ e => e)
theorem name_str (l : List Int) : (⟨(L4.toU l).toArray⟩ : ByteArray) = strOfNums l := by
 have h := strOfNums_data l
 apply ByteArray.ext
 apply Array.ext'
 rw [h]
 rfl
theorem rbE_bounds {l : List Int} (hl : Byt l) (off : Int) : 0 ≤ rbE l off 8 ∧ rbE l off 8 ≤ l.length := by
 cases h : rbB l off 8 with
 | false => rw [(rb_no h).2]; omega
 | true =>
  rw [(rb_yes h).2]
  have hb := rd_bounds hl off
  unfold rbB at h
  simp only [Bool.and_eq_true, decide_eq_true_eq] at h
  omega
def GaveRR (w : World) (fs : List F) (e : Int) (b : Bool) (en : Ending) (w' : World) : Prop :=
 ∃ a c, en = .returned (.tuple #[.agg #[.slice a fs.length c], .int .i64 e, .bool b]) ∧ OwnV w' w.heap.size 92 2 a c fs.length (cellsF fs) ∧ Below w.heap.size w w'
end Go.Proofs.Ythiidcflpgbogaa.L5

set_option linter.unusedSimpArgs false
namespace Go.Proofs.Ythiidcflpgbogaa.L5
open L4 (boxR push_box box_at)
open Go.ChangeShapes Go.WideShapes Go.ChangeAt Go.RowKit Mem Sl Ex L2 Sv
theorem rbL_len (l : List Int) (o : Int) : (rbL l o 8).length ≤ l.length := by
 cases h : rbB l o 8 with
 | false => rw [(rb_no h).1]; simp
 | true => rw [(rb_yes h).1, List.length_take, List.length_drop]; omega
theorem strOfNums_size (l : List Int) : (strOfNums l).size = l.length := by
 show (strOfNums l).data.size = _
 rw [← Array.length_toList, strOfNums_data]
 simp
set_option maxHeartbeats 4000000 in
theorem l5Read_any (a : Option Addr) (c : Nat) (l : List Int) (off : Int) (w : World) (hr : Reads w w.heap.size a (ints .u8 l)) (hb : Byt l) (hc : l.length ≤ c) (hl : l.length ≤ 1099511627776) (h0 : 0 ≤ off) (h1 : off ≤ l.length) :
  Calls Try.prog 107 #[.slice a l.length c, .int .i64 off] w (GaveRR w (rrL l off) (rrE l off) (rrB l off)) := by
 obtain ⟨i0, hi, hz0, hz1, hz2⟩ := fieldInfo
 have HI := Lib.hid (And.intro hi (And.intro hz0 (And.intro hz1 hz2)))
 have HRD := Lib.hid (fun (o : Int) (h0 : 0 ≤ o) (h1 : o ≤ l.length) (w1 : World) (h : Below w.heap.size w w1) => show Calls Try.prog 60 #[.slice a l.length c, .int .i64 o] w1 (fun e w' => e = .returned (.tuple #[.int .i64 (rdN l o), .int .i64 (rdE l o), .bool (rdB l o)]) ∧ Below w1.heap.size w1 w') from specReadB_any a c l o w1 w.heap.size h.size (hr.below h) hb hc hl (by omega) (by omega))
 have HRB := Lib.hid (fun (o : Int) (h0 : 0 ≤ o) (h1 : o ≤ l.length) (w1 : World) (h : Below w.heap.size w w1) => specReadBytes_any a c l o 8 w1 ((hr.below h).more h.size) hb hc hl (by omega) (by omega))
 have HBD := Lib.hid (fun o => rd_bounds hb o)
 have HBE := Lib.hid (fun o => rbE_bounds hb o)
 obtain ⟨N, hN⟩ : ∃ n, n = l.length := ⟨_, rfl⟩
 rw [← hN] at HRD HRB hl h1 HBD HBE ⊢
 have HN := Lib.hid hN
 clear hN hr hb hc
 have hl' : (N : Int) ≤ 1099511627776 := by omega
 have S0 := Sep.start w
 have S1 := push_box S0 34 #[.slice none 0 0] w.heap.size rfl
 obtain ⟨W1, hW1⟩ : ∃ u, u = w.alloc (.cells #[.slice none 0 0] 34) := ⟨_, rfl⟩
 rw [← hW1] at S1
 have H1 := Lib.hid S1
 clear S0 S1
 have HN0 := Lib.hid (HBD.out off)
 have HC0 := Lib.hid (HRD.out off h0 h1)
 obtain ⟨v0, hv0⟩ : ∃ v, v = rdN l off := ⟨_, rfl⟩
 obtain ⟨e0, he0⟩ : ∃ v, v = rdE l off := ⟨_, rfl⟩
 obtain ⟨b0, hb0⟩ : ∃ v, v = rdB l off := ⟨_, rfl⟩
 rw [← hv0, ← he0, ← hb0] at HC0
 rw [← hv0, ← he0] at HN0
 obtain ⟨hv1, hv2, he1, he2⟩ := HN0.out
 have HV := Lib.hid (And.intro hv0 (And.intro he0 hb0))
 clear hv0 he0 hb0 HN0
 go_enter Try.func107, Try.ntmps107
 go_upto_region 1 with fail
 rw [← hW1]
 clear hW1
 go_wp2_with fail
 go_at_call 60
 refine (HC0.out _ H1.out.old).mono ?_
 rintro e w2 ⟨rfl, h2⟩
 have H2 := Lib.hid (H1.out.keep h2)
 clear h2 H1 HC0
 obtain ⟨z0, z1⟩ := Row.one (box_at H2.out 0 rfl)
 have HNO := Lib.hid (show rrO l off = none → ∀ w' cs, Sep w w' (boxR w.heap.size 34 #[.slice none 0 0] :: cs) → GaveRR w (rrL l off) (rrE l off) (rrB l off) (.returned (.tuple #[.agg #[.slice none 0 0], .int .i64 0, .bool false])) w' from fun h w' cs hS => by
  obtain ⟨a1, a2, a3⟩ := rr_none h
  unfold GaveRR
  rw [a1, a2, a3]
  exact ⟨none, 0, rfl, OwnV.nil _ _ _ _, hS.old⟩)
 cases b0 with
 | false =>
  have HE := Lib.hid (show rrO l off = none by unfold rrO; rw [← HV.out.2.2]; rfl)
  have S3 := Lib.hid (put_box5 H2.out 0 rfl 0 (.slice none 0 0))
  go_wp2_with fail
  refine bodyPost_ret (v := .tuple #[.agg #[.slice none 0 0], .int .i64 0, .bool false]) (by simp [results, Try.results107, go_sem, z0]) rfl ?_
  exact HNO.out HE.out _ _ S3.out
 | true =>
  by_cases h6 : v0 ≤ 6
  ·
   obtain ⟨n, hn0⟩ : ∃ k : Nat, v0 = k := ⟨v0.toNat, by omega⟩
   subst hn0
   have HRF := Lib.hid (show rrO l off = rdFs l e0 n by
    unfold rrO
    rw [← HV.out.2.2, ← HV.out.1, decide_eq_true h6, ← HV.out.2.1, Int.toNat_natCast]
    rfl)
   obtain ⟨G, hG⟩ : ∃ g, g = w2.heap.size := ⟨_, rfl⟩
   obtain ⟨w3, hw3⟩ : ∃ u, u = w2.alloc (.cells #[.slice none 0 0] 34) := ⟨_, rfl⟩
   have S3 := push_box H2.out 34 #[.slice none 0 0] G hG
   rw [← hw3] at S3
   have S4 := Lib.hid (push_own S3 (Below.refl _ _) (OwnV.nil w3 _ 92 2))
   clear S3
   go_upto_region 5 with fail
   rw [← hw3, ← hG]
   clear hw3 hG z0 z1 HV
   go_wp2
   go_loopw [8, 11] (fun o i wr => ∃ (k : Nat) (o1 : Int) (a1 : Option Addr) (c1 : Nat) (acc : List F), k ≤ n ∧ i = .int .i64 k ∧ o = .int .i64 o1 ∧ 0 ≤ o1 ∧ o1 ≤ N ∧ Hid (Sep w wr [boxR w.heap.size 34 #[.slice none 0 0], boxR G 34 #[.slice a1 k c1], ownV 92 2 a1 c1 k (cellsF acc)] ∧ RfMid l e0 n k acc o1 ∧ Small acc)) (fun _ i _ => n - (intOf i).toNat)
   case atStart => exact ⟨0, e0, none, 0, [], Nat.zero_le _, rfl, rfl, he1, he2, S4.out, RfMid.start _ _ _, fun f hf => by cases hf⟩
   case round =>
    obtain ⟨k, o1, a1, c1, acc, hk, rfl, rfl, ho0, ho1, hrel⟩ := hrel
    obtain ⟨z0, z1⟩ := Row.one (box_at hrel.out.1 0 rfl)
    obtain ⟨r0, r1⟩ := Row.one (box_at hrel.out.1 1 rfl)
    by_cases hlt : (k : Int) < (n : Int)
    ·
     have HB := Lib.hid (HRB.out o1 ho0 ho1 wr hrel.out.1.old)
     have HP := Lib.hid (HBE.out o1)
     obtain ⟨L1, hL1⟩ : ∃ v, v = rbL l o1 8 := ⟨_, rfl⟩
     obtain ⟨p1, hp1⟩ : ∃ v, v = rbE l o1 8 := ⟨_, rfl⟩
     obtain ⟨f1, hf1⟩ : ∃ v, v = rbB l o1 8 := ⟨_, rfl⟩
     rw [← hL1, ← hp1, ← hf1] at HB
     rw [← hp1] at HP
     have HLL := Lib.hid (show L1.length ≤ N by rw [hL1, HN.out]; exact rbL_len l o1)
     have HV1 := Lib.hid (And.intro hL1 (And.intro hp1 hf1))
     obtain ⟨hp2, hp3⟩ := HP.out
     clear hL1 hp1 hf1 HP
     go_wp2_with fail
     go_at_call 84
     refine HB.out.mono ?_
     rintro e w5 ⟨a5, c5, rfl, ho5, hb5⟩
     have S5 := Lib.hid (Sep.pushOwn hrel.out.1 hb5 ho5)
     clear ho5 hb5 HB z0 z1 r0 r1
     obtain ⟨z0, z1⟩ := Row.one (box_at S5.out 0 rfl)
     cases f1 with
     | false =>
      have HE := Lib.hid (show rrO l off = none by rw [HRF.out]; exact RfMid.none hrel.out.2.1 (by omega) (rdF_no HV1.out.2.2.symm))
      have S6 := Lib.hid (put_box5 S5.out 0 rfl 0 (.slice none 0 0))
      go_wp2_with fail
      refine bodyPost_ret (v := .tuple #[.agg #[.slice none 0 0], .int .i64 0, .bool false]) (by simp [results, Try.results107, go_sem, z0]) rfl ?_
      exact HNO.out HE.out _ _ S6.out
     | true =>
      have HQ := Lib.hid (HRD.out p1 hp2 hp3 w5 S5.out.old)
      have HB2 := Lib.hid (HBD.out p1)
      obtain ⟨v2, hv2'⟩ : ∃ v, v = rdN l p1 := ⟨_, rfl⟩
      obtain ⟨e2, he2'⟩ : ∃ v, v = rdE l p1 := ⟨_, rfl⟩
      obtain ⟨f2, hf2⟩ : ∃ v, v = rdB l p1 := ⟨_, rfl⟩
      rw [← hv2', ← he2', ← hf2] at HQ
      rw [← hv2', ← he2'] at HB2
      have HV2 := Lib.hid (And.intro hv2' (And.intro he2' hf2))
      clear hv2' he2' hf2
      go_wp2_with fail
      go_at_call 60
      refine HQ.out.mono ?_
      rintro e w6 ⟨rfl, hb6⟩
      have S6 := Lib.hid (S5.out.keep hb6)
      clear hb6 HQ z0 z1
      obtain ⟨z0, z1⟩ := Row.one (box_at S6.out 0 rfl)
      obtain ⟨r0, r1⟩ := Row.one (box_at S6.out 1 rfl)
      cases f2 with
      | false =>
       have HE := Lib.hid (show rrO l off = none by rw [HRF.out]; exact RfMid.none hrel.out.2.1 (by omega) (rdF_no2 (by rw [← HV1.out.2.1]; exact HV2.out.2.2.symm)))
       have S7 := Lib.hid (put_box5 S6.out 0 rfl 0 (.slice none 0 0))
       clear r0 r1
       go_wp2_with fail
       refine bodyPost_ret (v := .tuple #[.agg #[.slice none 0 0], .int .i64 0, .bool false]) (by simp [results, Try.results107, go_sem, z0]) rfl ?_
       exact HNO.out HE.out _ _ S7.out
      | true =>
       have HF := Lib.hid (show rdF l o1 = some (⟨strOfNums L1, v2⟩, e2) by rw [rdF_yes HV1.out.2.2.symm (by rw [← HV1.out.2.1]; exact HV2.out.2.2.symm), name_str, ← HV1.out.1, ← HV1.out.2.1, ← HV2.out.1, ← HV2.out.2.1])
       have HCV := Lib.hid (run_bytes_string (P := Try.prog) 51 5 9 Try.underlying51 Try.underlying5 Try.underlying9 a5 c5 L1 w6 _ (S6.out.own 3 rfl).reads)
       have HSZ := Lib.hid (show (strOfNums L1).size ≤ 281474976710656 by
        have h := strOfNums_size L1
        have := HLL.out
        omega)
       obtain ⟨t, ht⟩ : ∃ t, t = strOfNums L1 := ⟨_, rfl⟩
       rw [← ht] at HF HCV HSZ
       clear ht
       have hcv := HCV.out
       have S7 := Lib.hid (S6.out.alloc (.cells #[.string t, .int .i64 v2] 92))
       have R2 := Lib.hid (reads_two w6 t v2 _ rfl 92)
       go_wp2_with (at_builtin; refine wpList_append_v S7.out 2 rfl rfl _ _ 32 (by rfl) i0 (.agg #[.string ⟨#[]⟩, .int .i64 0]) 24 Try.underlying32 HI.out.1 HI.out.2.1 HI.out.2.2.1 HI.out.2.2.2 rfl (by omega) _ (by rfl) rfl _ _ 1 _ _ (cellsF [⟨t, v2⟩]) (by rfl) rfl R2.out rfl (cellsF_one _) (by unfold maxLen; omega) (by omega) ?_; intro a9 c9 w9 S9; obtain ⟨q0, q1⟩ := Row.one (box_at S9 1 rfl))
       have S10 := Lib.hid (sep_three (put_box5 S9 1 rfl 0 (.slice a9 (k + 1) c9)))
       obtain ⟨_, _, k0, k1⟩ := HB2.out
       clear hcv q0 q1 z0 z1 r0 r1 S9
       go_roundw
       case rel => exact ⟨k + 1, e2, a9, c9, acc ++ [⟨t, v2⟩], by omega, by go_num, rfl, k0, k1, And.intro (by rw [cellsF_append]; exact S10.out) (And.intro (RfMid.next hrel.out.2.1 (by omega) HF.out) (fun f hf => by
        rcases List.mem_append.1 hf with h | h
        ·
         exact hrel.out.2.2 f h
        ·
         rw [List.mem_singleton.1 h]; exact HSZ.out))⟩
       case measure => simp [intOf]; omega
    ·
     obtain rfl : k = n := by omega
     have HD := Lib.hid (show rrO l off = some (acc, o1) by rw [HRF.out]; exact RfMid.done hrel.out.2.1)
     have HAL := Lib.hid hrel.out.2.1.1
     obtain ⟨br, hbr⟩ : ∃ b, isR acc = b := ⟨_, rfl⟩
     have hIS := specIsRecord_any a1 c1 acc (by rw [HAL.out]; omega) hrel.out.2.2 wr.drew (own_at (hrel.out.1.drews 1) 2 rfl).reads
     rw [HAL.out, hbr] at hIS
     have HIS := Lib.hid hIS
     clear hIS
     go_upto_region 16 with fail
     refine wp_region_held_drew (S := (fun w' => w'.cell? ⟨G, 0, none⟩ = some (.slice a1 k c1))) (by kernel_rfl) r0 (fun hS => ?_)
     refine tk 0 rfl ?_
     try simp only [zp0, zp1, zp2, zp3, zp4]
     refine tk 1 rfl ?_
     try simp only [zp0, zp1, zp2, zp3, zp4]
     refine tk 2 rfl ?_
     try simp only [zp0, zp1, zp2, zp3, zp4]
     refine Reg.one_op (i := 3) rfl (by kernel_rfl) (fun K hK => ?_)
     go_simp
     go_at_call 41
     refine HIS.out.mono ?_
     rintro e w8 ⟨rfl, hb8⟩
     have S9 := Lib.hid ((hrel.out.1.drews 1).keep hb8)
     clear hb8
     go_wp2_with fail
     refine hK.out _ _ (Row.one (box_at S9.out 1 rfl)).1 (fun hS => ?_)
     clear hK K
     try simp only [zp0, zp1, zp2, zp3, zp4]
     refine Reg.one_op (i := 4) rfl (by kernel_rfl) (fun K hK => ?_)
     go_simp
     obtain ⟨q0, q1⟩ := Row.one (box_at S9.out 0 rfl)
     have SX := Lib.hid (put_box5 S9.out 0 rfl 0 (.slice a1 k c1))
     go_simp
     refine hK.out _ _ (Row.one (box_at SX.out 1 rfl)).1 (fun hS => ?_)
     clear hK K
     try simp only [zp0, zp1, zp2, zp3, zp4]
     refine tk 5 rfl ?_
     try simp only [zp0, zp1, zp2, zp3, zp4]
     refine tk 6 rfl ?_
     try simp only [zp0, zp1, zp2, zp3, zp4]
     refine wpAnyH_done (by kernel_rfl) ?_ _
     obtain ⟨y0, y1⟩ := Row.one (box_at SX.out 0 rfl)
     go_wp2_with fail
     refine bodyPost_ret (v := .tuple #[.agg #[.slice a1 k c1], .int .i64 o1, .bool br]) (by simp [results, Try.results107, go_sem, y0]) rfl ?_
     obtain ⟨d1, d2, d3⟩ := rr_some HD.out
     unfold GaveRR
     rw [d1, d2, d3, HAL.out, hbr]
     exact ⟨a1, c1, rfl, own_from SX.out 2 rfl, SX.out.old⟩
  ·
   have HE := Lib.hid (show rrO l off = none by unfold rrO; rw [← HV.out.2.2, ← HV.out.1, decide_eq_false h6]; rfl)
   have S3 := Lib.hid (put_box5 H2.out 0 rfl 0 (.slice none 0 0))
   go_wp2_with fail
   refine bodyPost_ret (v := .tuple #[.agg #[.slice none 0 0], .int .i64 0, .bool false]) (by simp [results, Try.results107, go_sem, z0]) rfl ?_
   exact HNO.out HE.out _ _ S3.out
end Go.Proofs.Ythiidcflpgbogaa.L5

namespace Go.Proofs.Ythiidcflpgbogaa.L5
open L4 (boxR push_box box_at)
open Go.ChangeShapes Go.WideShapes Go.ChangeAt Go.RowKit Mem Sl Ex L2 Sv

def decL (l : List Int) : List F := (decR l).getD []
def decB (l : List Int) : Bool := (decR l).isSome
set_option maxHeartbeats 4000000 in
theorem specDecodeRecord_any (a : Option Addr) (c : Nat) (l : List Int) (w : World) (hr : Reads w w.heap.size a (ints .u8 l)) (hb : Byt l) (hc : l.length ≤ c) (hl : l.length ≤ 1099511627776) :
  Calls Try.prog 86 #[.slice a l.length c] w (GaveRB w (decL l) (decB l)) := by
 obtain ⟨W1, hW1⟩ : ∃ u, u = w.alloc (.cells #[.slice none 0 0] 34) := ⟨_, rfl⟩
 have S0 := Sep.start w
 have S1 := push_box S0 34 #[.slice none 0 0] w.heap.size rfl
 rw [← hW1] at S1
 have H1 := Lib.hid S1
 have hRD := l5Read_any a c l 0 W1 ((hr.below S1.old).more S1.old.size) hb hc hl (by omega) (by omega)
 obtain ⟨N, hN⟩ : ∃ n, n = l.length := ⟨_, rfl⟩
 rw [← hN] at hRD hl ⊢
 have HDR := Lib.hid (decR_rr l)
 obtain ⟨fs, hfs⟩ : ∃ v, v = rrL l 0 := ⟨_, rfl⟩
 obtain ⟨e, he⟩ : ∃ v, v = rrE l 0 := ⟨_, rfl⟩
 obtain ⟨b, hb'⟩ : ∃ v, v = rrB l 0 := ⟨_, rfl⟩
 rw [← hfs, ← he, ← hb'] at hRD
 rw [← hfs, ← he, ← hb', ← hN] at HDR
 obtain ⟨q, hq⟩ : ∃ q, q = fs.length := ⟨_, rfl⟩
 unfold GaveRR at hRD
 rw [← hq] at hRD
 have HRD := Lib.hid hRD
 have HQ := Lib.hid hq
 have hl' : (N : Int) ≤ 1099511627776 := by omega
 clear S0 S1 hRD hN hfs he hb' hq hr hb hc
 go_enter Try.func86, Try.ntmps86
 go_upto_region 1 with fail
 rw [← hW1]
 clear hW1
 go_wp2_with fail
 go_at_call 107
 refine HRD.out.mono ?_
 rintro en w3 ⟨a1, c1, rfl, ho3, hb3⟩
 have S3 := push_own H1.out hb3 ho3
 clear ho3 hb3 H1 HRD
 obtain ⟨G, hG⟩ : ∃ g, g = w3.heap.size := ⟨_, rfl⟩
 obtain ⟨w4, hw4⟩ : ∃ u, u = w3.alloc (.cells #[.slice a1 q c1] 34) := ⟨_, rfl⟩
 have S4 := push_box S3 34 #[.slice a1 q c1] G hG
 rw [← hw4] at S4
 have H4 := Lib.hid S4
 clear S3 S4
 go_upto_region 2 with fail
 rw [← hw4, ← hG]
 clear hw4 hG
 obtain ⟨z0, z1⟩ := Row.one (box_at H4.out 0 rfl)
 obtain ⟨r0, r1⟩ := Row.one (box_at H4.out 2 rfl)
 by_cases hk : b = true ∧ e = (N : Int)
 ·
  obtain ⟨rfl, rfl⟩ := hk
  have HE := Lib.hid (show decL l = fs ∧ decB l = true by unfold decL decB; rw [HDR.out]; simp)
  have S5 := Lib.hid (put_box5 H4.out 0 rfl 0 (.slice a1 q c1))
  obtain ⟨y0, y1⟩ := Row.one (box_at S5.out 0 rfl)
  go_wp2_with fail
  refine bodyPost_ret (v := .tuple #[.agg #[.slice a1 q c1], .bool true]) (by simp [results, Try.results86, go_sem, z0]) rfl ?_
  unfold GaveRB
  rw [HE.out.1, HE.out.2, ← HQ.out]
  exact ⟨a1, c1, rfl, own_from S5.out 1 rfl, S5.out.old⟩
 ·
  have HE := Lib.hid (show decL l = [] ∧ decB l = false by
   have h : (b && decide (e = (N : Int))) = false := by
    cases b with
    | false => rfl
    | true => rw [Bool.true_and, decide_eq_false_iff_not]; exact fun h => hk ⟨rfl, h⟩
   unfold decL decB
   rw [HDR.out, h]
   exact ⟨rfl, rfl⟩)
  have S5 := Lib.hid (put_box5 H4.out 0 rfl 0 (.slice none 0 0))
  rcases (show b = false ∨ (b = true ∧ ¬ e = (N : Int)) by
   cases b with
   | false => exact .inl rfl
   | true => exact .inr ⟨rfl, fun h => hk ⟨rfl, h⟩⟩) with rfl | ⟨rfl, hne⟩
  all_goals
   clear hk
   go_wp2_with fail
   refine bodyPost_ret (v := .tuple #[.agg #[.slice none 0 0], .bool false]) (by simp [results, Try.results86, go_sem, z0]) rfl ?_
   unfold GaveRB
   rw [HE.out.1, HE.out.2]
   exact ⟨none, 0, rfl, OwnV.nil _ _ _ _, S5.out.old⟩
end Go.Proofs.Ythiidcflpgbogaa.L5

namespace Go.Proofs.Ythiidcflpgbogaa.L4
open Go.Op (bytesLess)
open Go.ChangeShapes Go.WideShapes Go.ChangeAt Go.RowKit Mem Sl Ex L2

def oK (o : Option K) : K := o.getD K.zero
def decK (l : List Int) : K := oK (decO (toU l))
def decB (l : List Int) : Bool := (decO (toU l)).isSome
theorem dec_no {l : List Int} (h : decO (toU l) = none) : decK l = K.zero ∧ decB l = false := by unfold decK decB oK; rw [h]; exact ⟨rfl, rfl⟩
theorem dec_yes {l : List Int} {k : K} (h : decO (toU l) = some k) : decK l = k ∧ decB l = true := by unfold decK decB oK; rw [h]; exact ⟨rfl, rfl⟩
theorem dec_is {l : List Int} {k : K} (h : cand (toU l) = some k) : decO (toU l) = if isK k then some k else none := by
 unfold decO
 rw [h, Option.filter_some]
def DkE (l : List Int) : Ending := .returned (.tuple #[(decK l).v, .bool (decB l)])
theorem toU_cons (x : Int) (r : List Int) : toU (x :: r) = UInt8.ofNat x.toNat :: toU r := rfl
@[simp] theorem toU_length (l : List Int) : (toU l).length = l.length := by simp [toU]
theorem cand_short {x : Int} {r : List Int} (hx : 0 ≤ x ∧ x ≤ 255) (h : ¬ x = 2) (hr : r.length < 6) : cand (toU (x :: r)) = none := by
 rw [toU_cons]
 show (if (UInt8.ofNat x.toNat).toNat = 2 then _ else if (toU r).length < 6 then none else _) = none
 rw [UInt8.toNat_ofNat', if_neg (by omega), if_pos (by simpa using hr)]
theorem cand_text {r : List Int} : cand (toU (2 :: r)) = some ⟨2, 0, strOfNums r⟩ := by
 show some (⟨2, 0, ⟨(toU r).toArray⟩⟩ : K) = _
 congr 1
theorem cand_num {x : Int} {r : List Int} (hx : 0 ≤ x ∧ x ≤ 255) (h : ¬ x = 2) (hr : 6 ≤ r.length) : cand (toU (x :: r)) = some ⟨x, (val ((toU r).take 6) : Int) - 1000000000000, strOfNums (r.drop 6)⟩ := by
 rw [toU_cons]
 show (if (UInt8.ofNat x.toNat).toNat = 2 then _ else if (toU r).length < 6 then none else some (⟨(UInt8.ofNat x.toNat).toNat, (val ((toU r).take 6) : Int) - 1000000000000, ⟨((toU r).drop 6).toArray⟩⟩ : K)) = _
 rw [UInt8.toNat_ofNat', if_neg (by omega), if_neg (by simp; omega)]
 congr 1
 refine K.ext' (by show ((x.toNat % 2 ^ 8 : Nat) : Int) = x; omega) rfl ?_
 simp only [K.t, strOfNums_data]
 simp [toU]
theorem or_byte (m : Nat) (x : Int) (h0 : 0 ≤ x) (h1 : x ≤ 255) (hm : (m : Int) ≤ 1099511627776) : bits .or .i64 ((m : Int) * 256) x = (m : Int) * 256 + x := by
 obtain ⟨y, rfl⟩ : ∃ y : Nat, x = y := ⟨x.toNat, by omega⟩
 have h2 : (BitVec.ofInt 64 ((m : Int) * 256) ||| BitVec.ofInt 64 (y : Int)).toNat = m * 256 + y := by
  rw [show (m : Int) * 256 = ((m * 256 : Nat) : Int) by omega, BitVec.ofInt_natCast, BitVec.ofInt_natCast, BitVec.toNat_or, BitVec.toNat_ofNat, BitVec.toNat_ofNat, Nat.mod_eq_of_lt (show m * 256 < 2 ^ 64 by omega), Nat.mod_eq_of_lt (show y < 2 ^ 64 by omega)]
  rw [Nat.mul_comm m 256, show (256 : Nat) = 2 ^ 8 by decide, Nat.two_pow_add_eq_or_of_lt (by omega)]
 show IntKind.i64.wrap ((BitVec.ofInt 64 ((m : Int) * 256) ||| BitVec.ofInt 64 (y : Int)).toNat : Nat) = _
 rw [h2, IntKind.wrap_i64]
 omega

theorem Row.facts3 {w : World} {g : Nat} {t : TypeId} {x y z : Value} (h : Row w g t #[x, y, z]) : w.cell? ⟨g, 0, none⟩ = some x ∧ w.cell? ⟨g, 1, none⟩ = some y ∧ w.cell? ⟨g, 2, none⟩ = some z ∧ w.frozen? ⟨g, 0, none⟩ = false ∧ w.frozen? ⟨g, 1, none⟩ = false ∧ w.frozen? ⟨g, 2, none⟩ = false := by
 refine ⟨?_, ?_, ?_, h.free 0, h.free 1, h.free 2⟩ <;> (rw [h.cell]; rfl)
structure Two (w wr : World) (t : TypeId) (k : K) : Prop where
 z : Row wr w.heap.size t #[.int .i64 0, .int .i64 0, .string ⟨#[]⟩]
 k : Row wr (w.heap.size + 1) t k.cells
 b : Below w.heap.size w wr
theorem Two.made (w : World) (t : TypeId) (k : K) : Two w ((w.alloc (.cells #[.int .i64 0, .int .i64 0, .string ⟨#[]⟩] t)).alloc (.cells k.cells t)) t k := by
 refine ⟨(Row.made w t _).more _, ?_, below_alloc (below_alloc (Below.refl _ _) _ (Nat.le_refl _)) _ (Nat.le_refl _)⟩
 rw [show w.heap.size + 1 = (w.alloc (.cells #[.int .i64 0, .int .i64 0, .string ⟨#[]⟩] t)).heap.size by simp]
 exact Row.made _ _ _
theorem Two.next {w wr w' : World} {t : TypeId} {k : K} (h : Two w wr t k) (hb : Below wr.heap.size wr w') : Two w w' t k :=
 ⟨h.z.below hb h.z.inside, h.k.below hb h.k.inside, h.b.trans (hb.mono h.b.size)⟩

set_option maxHeartbeats 2000000 in
theorem specDecodeKey_any (a : Option Addr) (c : Nat) (l : List Int) (w : World) (hr : Reads w w.heap.size a (ints .u8 l)) (hy : Byt l) (hc : l.length ≤ c) (hl : l.length ≤ 1099511627776) :
  Calls Try.prog 85 #[.slice a l.length c] w fun e w' => e = DkE l ∧ Below w.heap.size w w' := by
 have HB := Lib.hid (fun (w1 : World) (h : Below w.heap.size w w1) o => below_alloc h o (Nat.le_refl _))
 rcases l with _ | ⟨x, r⟩
 ·
  have HD := Lib.hid (dec_no (l := []) rfl)
  clear hr hy hc hl
  go_enter Try.func85, Try.ntmps85
  go_wp2
  refine bodyPost_ret (v := .tuple #[K.zero.v, .bool false]) (by simp [results, Try.results85, go_sem, K.v, K.zero]) rfl ?_
  exact ⟨by unfold DkE; rw [HD.out.1, HD.out.2], HB.out w (Below.refl _ _) _⟩
 ·
  obtain ⟨hx0, hx1⟩ := hy x (by simp)
  obtain ⟨ad, rfl, hab, hcell⟩ := hr.int 0 (by simp)
  have hcell0 : w.cell? (ad.add 0) = some (.int .u8 x) := hcell
  rw [show ad.add 0 = ad by simp [Addr.add]] at hcell0
  by_cases h2 : x = 2
  ·
   subst h2
   have hcn : r.length + 1 ≤ c := by simpa using hc
   have hln : (r.length : Int) ≤ 1099511627776 := by simp at hl; omega
   have hrr : Reads w w.heap.size (some (ad.add 1)) (ints .u8 r) := fun j hj => by
    obtain ⟨ad', he, hb, hcl⟩ := hr (j + 1) (by simp at hj ⊢; omega)
    injection he with he
    subst he
    refine ⟨_, rfl, by rw [add_block]; exact hb, ?_⟩
    rw [add_add, Nat.add_comm 1 j, hcl]
    simp [ints]
   have hcv := fun (w1 : World) (h : Below w.heap.size w w1) (cp : Nat) => run_bytes_string 51 5 9 Try.underlying51 Try.underlying5 Try.underlying9 (some (ad.add 1)) cp r w1 _ (hrr.below h)
   have HE := dec_is (cand_text (r := r))
   obtain ⟨S, hS⟩ : ∃ s, strOfNums r = s := ⟨_, rfl⟩
   rw [hS] at HE
   obtain ⟨ik, hik⟩ : ∃ b, isK ⟨2, 0, S⟩ = b := ⟨_, rfl⟩
   have HK := Lib.hid (fun w => specIsKey_any ⟨2, 0, S⟩ (by rw [← hS]; show (strOfNums r).data.size ≤ _; rw [← Array.length_toList, strOfNums_data]; simp; omega) w)
   rw [hik] at HK HE
   rw [hS] at hcv
   have hcl : c = 1 ∨ ¬ c = 1 := by omega
   have t0 := Two.made w 31 ⟨2, 0, S⟩
   have hcw := hcv ((w.alloc (.cells #[.int .i64 0, .int .i64 0, .string ⟨#[]⟩] 31)).alloc (.cells #[.int .i64 2, .int .i64 0, .string ⟨#[]⟩] 31)) (below_alloc (below_alloc (Below.refl _ _) _ (Nat.le_refl _)) _ (Nat.le_refl _)) (c - 1)
   rw [show ad.add 1 = ⟨ad.block, ad.off + 1, none⟩ from rfl] at hcw
   obtain ⟨w2, hw2⟩ : ∃ x, x = (w.alloc (.cells #[.int .i64 0, .int .i64 0, .string ⟨#[]⟩] 31)).alloc (.cells #[.int .i64 2, .int .i64 0, .string S] 31) := ⟨_, rfl⟩
   have t0' : Two w w2 31 ⟨2, 0, S⟩ := by rw [hw2]; exact t0
   have T0 := Lib.hid t0'
   clear t0 t0' hcv hrr hr hy hc hl hcell hik
   have hc0 : (0 : Int) < (c : Int) := by omega
   have hc1 : (1 : Int) ≤ (c : Int) := by omega
   have HE := Lib.hid HE
   rcases hcl with rfl | hcl
   ·
    obtain rfl : r = [] := List.eq_nil_of_length_eq_zero (by omega)
    have hcw0 := run_bytes_string 51 5 9 Try.underlying51 Try.underlying5 Try.underlying9 (some ad) 0 [] ((w.alloc (.cells #[.int .i64 0, .int .i64 0, .string ⟨#[]⟩] 31)).alloc (.cells #[.int .i64 2, .int .i64 0, .string ⟨#[]⟩] 31)) w.heap.size Reads.nil
    rw [hS, List.length_nil] at hcw0
    clear hS
    go_enter Try.func85, Try.ntmps85
    go_wp2_with fail
    go_at_call 40
    rw [← hw2]
    clear hw2 hcw hcw0
    refine (HK.out w2).mono ?_
    rintro e w3 ⟨rfl, h3⟩
    have T3 := Lib.hid (T0.out.next h3)
    clear h3
    obtain ⟨z0, z1, z2, f0, f1, f2⟩ := Row.facts3 T3.out.z
    obtain ⟨y0, y1, y2, -, -, -⟩ := Row.facts3 (show Row w3 (w.heap.size + 1) 31 #[.int .i64 2, .int .i64 0, .string S] from T3.out.k)
    have HB3 := Lib.hid (fun (x y z : Value) => ((T3.out.b.setCell (p := ⟨w.heap.size, 0, none⟩) (Nat.le_refl _) x).setCell (p := ⟨w.heap.size, 1, none⟩) (Nat.le_refl _) y).setCell (p := ⟨w.heap.size, 2, none⟩) (Nat.le_refl _) z)
    cases ik with
    | false =>
     have HD := Lib.hid (dec_no (HE.out.trans rfl))
     go_wp2_with fail
     refine bodyPost_ret (v := .tuple #[K.zero.v, .bool false]) (by simp [results, Try.results85, go_sem, K.v, K.zero, z0, z1, z2]) rfl ?_
     exact ⟨by unfold DkE; rw [HD.out.1, HD.out.2], HB3.out _ _ _⟩
    | true =>
     have HD := Lib.hid (dec_yes (HE.out.trans rfl))
     go_wp2_with fail
     refine bodyPost_ret (v := .tuple #[K.v ⟨2, 0, S⟩, .bool true]) (by simp [results, Try.results85, go_sem, K.v, z0, z1, z2]) rfl ?_
     exact ⟨by unfold DkE; rw [HD.out.1, HD.out.2], HB3.out _ _ _⟩
   ·
    rw [show ((2 : Int) :: r).length = r.length + 1 from rfl]
    clear hS
    go_enter Try.func85, Try.ntmps85
    go_wp2_with fail
    go_at_call 40
    rw [← hw2]
    clear hw2 hcw
    refine (HK.out w2).mono ?_
    rintro e w3 ⟨rfl, h3⟩
    have T3 := Lib.hid (T0.out.next h3)
    clear h3
    obtain ⟨z0, z1, z2, f0, f1, f2⟩ := Row.facts3 T3.out.z
    obtain ⟨y0, y1, y2, -, -, -⟩ := Row.facts3 (show Row w3 (w.heap.size + 1) 31 #[.int .i64 2, .int .i64 0, .string S] from T3.out.k)
    have HB3 := Lib.hid (fun (x y z : Value) => ((T3.out.b.setCell (p := ⟨w.heap.size, 0, none⟩) (Nat.le_refl _) x).setCell (p := ⟨w.heap.size, 1, none⟩) (Nat.le_refl _) y).setCell (p := ⟨w.heap.size, 2, none⟩) (Nat.le_refl _) z)
    cases ik with
    | false =>
     have HD := Lib.hid (dec_no (HE.out.trans rfl))
     go_wp2_with fail
     refine bodyPost_ret (v := .tuple #[K.zero.v, .bool false]) (by simp [results, Try.results85, go_sem, K.v, K.zero, z0, z1, z2]) rfl ?_
     exact ⟨by unfold DkE; rw [HD.out.1, HD.out.2], HB3.out _ _ _⟩
    | true =>
     have HD := Lib.hid (dec_yes (HE.out.trans rfl))
     go_wp2_with fail
     refine bodyPost_ret (v := .tuple #[K.v ⟨2, 0, S⟩, .bool true]) (by simp [results, Try.results85, go_sem, K.v, z0, z1, z2]) rfl ?_
     exact ⟨by unfold DkE; rw [HD.out.1, HD.out.2], HB3.out _ _ _⟩
  ·
   have h2' : (x == 2) = false := by simpa using h2
   have hc0 : (0 : Int) < (c : Int) := by simp at hc; omega
   by_cases hs : r.length < 6
   ·
    have HD := Lib.hid (dec_no (l := x :: r) (by unfold decO; rw [cand_short ⟨hx0, hx1⟩ h2 hs]; rfl))
    have hs' : (r.length : Int) + 1 < 7 := by omega
    rw [show (x :: r).length = r.length + 1 from rfl]
    clear hr hy hc hl hcell h2' hs
    go_enter Try.func85, Try.ntmps85
    go_wp2
    refine bodyPost_ret (v := .tuple #[K.zero.v, .bool false]) (by simp [results, Try.results85, go_sem, K.v, K.zero]) rfl ?_
    exact ⟨by unfold DkE; rw [HD.out.1, HD.out.2], HB.out _ (HB.out w (Below.refl _ _) _) _⟩
   ·
    have hcn : r.length + 1 ≤ c := by simpa using hc
    have hln : (r.length : Int) ≤ 1099511627776 := by simp at hl; omega
    have HX := Lib.hid (fun (j : Nat) (hj : j < r.length) => show w.cell? (ad.add (j + 1)) = some (.int .u8 r[j]) ∧ 0 ≤ r[j] ∧ r[j] ≤ 255 from by
     obtain ⟨ad', he, hb, hcl⟩ := hr.int (j + 1) (by simp; omega)
     injection he with he
     subst he
     exact ⟨hcl, hy _ (by simp)⟩)
    have hrr : Reads w w.heap.size (some (ad.add 7)) (ints .u8 (r.drop 6)) := fun j hj => by
     have hj2 : j + 6 < r.length := by simp at hj; omega
     refine ⟨_, rfl, by rw [add_block]; exact hab, ?_⟩
     rw [add_add, show 7 + j = (j + 6) + 1 by omega, (HX.out (j + 6) hj2).1]
     simp [ints, Nat.add_comm]
    have hcv := fun (w1 : World) (h : Below w.heap.size w w1) (cp : Nat) => run_bytes_string 51 5 9 Try.underlying51 Try.underlying5 Try.underlying9 (some (ad.add 7)) cp (r.drop 6) w1 _ (hrr.below h)
    have HE0 := dec_is (cand_num (x := x) (r := r) ⟨hx0, hx1⟩ h2 (by omega))
    obtain ⟨S, hS⟩ : ∃ s, strOfNums (r.drop 6) = s := ⟨_, rfl⟩
    obtain ⟨V, hV⟩ : ∃ v, val ((toU r).take 6) = v := ⟨_, rfl⟩
    have hV2 : (V : Int) ≤ 281474976710656 := by
     have := val_lt ((toU r).take 6)
     rw [hV, show ((toU r).take 6).length = 6 by simp; omega] at this
     have p6 : (256 : Nat) ^ 6 = 281474976710656 := by decide
     omega
    rw [hS, hV] at HE0
    obtain ⟨ik, hik⟩ : ∃ b, isK ⟨x, (V : Int) - 1000000000000, S⟩ = b := ⟨_, rfl⟩
    have HK := Lib.hid (fun w => specIsKey_any ⟨x, (V : Int) - 1000000000000, S⟩ (by rw [← hS]; show (strOfNums (r.drop 6)).data.size ≤ _; rw [← Array.length_toList, strOfNums_data]; simp; omega) w)
    rw [hik] at HK HE0
    rw [hS] at hcv
    have HE := Lib.hid HE0
    clear HE0
    have HV := Lib.hid hV
    have HS := Lib.hid hS
    obtain ⟨N, hN⟩ : ∃ N, (V : Int) - 1000000000000 = N := ⟨_, rfl⟩
    rw [hN] at HK HE
    have hcl : c = 7 ∨ ¬ c = 7 := by omega
    have t0 := Two.made w 31 ⟨x, N, S⟩
    have hcw := hcv ((w.alloc (.cells #[.int .i64 0, .int .i64 0, .string ⟨#[]⟩] 31)).alloc (.cells #[.int .i64 x, .int .i64 N, .string ⟨#[]⟩] 31)) (below_alloc (below_alloc (Below.refl _ _) _ (Nat.le_refl _)) _ (Nat.le_refl _)) (c - 7)
    rw [show ad.add 7 = ⟨ad.block, ad.off + 7, none⟩ from rfl, show (r.drop 6).length = r.length - 6 by simp] at hcw
    obtain ⟨w2, hw2⟩ : ∃ u, u = (w.alloc (.cells #[.int .i64 0, .int .i64 0, .string ⟨#[]⟩] 31)).alloc (.cells #[.int .i64 x, .int .i64 N, .string S] 31) := ⟨_, rfl⟩
    have t0' : Two w w2 31 ⟨x, N, S⟩ := by rw [hw2]; exact t0
    have T0 := Lib.hid t0'
    have hc1 : (7 : Int) ≤ (c : Int) := by omega
    have hr6 : (7 : Int) ≤ (r.length : Int) + 1 := by omega
    clear t0 t0' hcv hrr hr hy hc hl hcell hik hV hS
    rw [show (x :: r).length = r.length + 1 from rfl]
    go_enter Try.func85, Try.ntmps85
    go_wp2
    go_loop [6, 7] (fun v i => ∃ (j m : Nat), 1 ≤ j ∧ j ≤ 7 ∧ i = .int .i64 j ∧ v = .int .i64 m ∧ Hid (val ((toU r).take (j - 1)) = m)) (fun _ i => 7 - (intOf i).toNat)
    case atStart => exact ⟨1, 0, by omega, by omega, rfl, rfl, rfl⟩
    case round =>
     obtain ⟨j, m, hj1, hj7, rfl, rfl, hrel⟩ := hrel
     by_cases hlt : (j : Int) < 7
     ·
      obtain ⟨hcx, hy0, hy1⟩ := HX.out (j - 1) (by omega)
      rw [show j - 1 + 1 = j by omega] at hcx
      have HST := Lib.hid (val_take (toU r) (j - 1) (by simp; omega))
      have hm : (m : Int) ≤ 1099511627776 := by
       have h9 := val_lt ((toU r).take (j - 1))
       rw [hrel.out] at h9
       have h8 : 256 ^ ((toU r).take (j - 1)).length ≤ 256 ^ 5 := Nat.pow_le_pow_right (by decide) (by simp; omega)
       have p5 : (256 : Nat) ^ 5 = 1099511627776 := by decide
       omega
      obtain ⟨y, hy⟩ : ∃ y, y = r[j - 1]'(by omega) := ⟨_, rfl⟩
      have hyU : ((toU r)[j - 1]'(by simp; omega)).toNat = y.toNat := by
       rw [hy] at *
       simp only [toU, List.getElem_map, UInt8.toNat_ofNat']
       omega
      rw [← hy] at hcx hy0 hy1
      have hor := or_byte m y hy0 hy1 hm
      have HU := Lib.hid hyU
      have hjr : (j : Int) < (r.length : Int) + 1 := by omega
      have hj0 : (0 : Int) ≤ (j : Int) := by omega
      have hcx1 : ((w.alloc (.cells #[.int .i64 0, .int .i64 0, .string ⟨#[]⟩] 31)).alloc (.cells #[.int .i64 x, .int .i64 0, .string ⟨#[]⟩] 31)).cell? (ad.add j) = some (.int .u8 y) := ((HB.out _ (HB.out w (Below.refl _ _) _) _).cell (by rw [add_block]; exact hab)).trans hcx
      clear hy hyU hcx
      go_wp2
      go_round
      case rel =>
       refine ⟨j + 1, m * 256 + y.toNat, by omega, by omega, by go_num, by congr 1; omega, ?_⟩
       have h5 := HST.out
       rw [hrel.out, HU.out, show j - 1 + 1 = j + 1 - 1 by omega] at h5
       exact h5
      case measure => simp [intOf]; omega
     ·
      obtain rfl : j = 7 := by omega
      have hm : m = V := by rw [← hrel.out]; exact HV.out
      subst hm
      have hN' := hN
      rcases hcl with rfl | hcl
      ·
       have hrl : r.length = 6 := by omega
       have e0 : r.drop 6 = [] := List.drop_eq_nil_of_le (by omega)
       have hcw0 := run_bytes_string 51 5 9 Try.underlying51 Try.underlying5 Try.underlying9 (some ad) 0 [] ((w.alloc (.cells #[.int .i64 0, .int .i64 0, .string ⟨#[]⟩] 31)).alloc (.cells #[.int .i64 x, .int .i64 N, .string ⟨#[]⟩] 31)) w.heap.size Reads.nil
       have h9 := HS.out
       rw [e0] at h9
       rw [h9, List.length_nil] at hcw0
       clear h9 e0
       go_wp2_with fail
       go_at_call 40
       rw [← hw2]
       clear hw2 hcw hcw0
       refine (HK.out w2).mono ?_
       rintro e w3 ⟨rfl, h3⟩
       have T3 := Lib.hid (T0.out.next h3)
       clear h3
       obtain ⟨z0, z1, z2, f0, f1, f2⟩ := Row.facts3 T3.out.z
       obtain ⟨y0, y1, y2, -, -, -⟩ := Row.facts3 (show Row w3 (w.heap.size + 1) 31 #[.int .i64 x, .int .i64 N, .string S] from T3.out.k)
       have HB3 := Lib.hid (fun (x y z : Value) => ((T3.out.b.setCell (p := ⟨w.heap.size, 0, none⟩) (Nat.le_refl _) x).setCell (p := ⟨w.heap.size, 1, none⟩) (Nat.le_refl _) y).setCell (p := ⟨w.heap.size, 2, none⟩) (Nat.le_refl _) z)
       cases ik with
       | false =>
        have HD := Lib.hid (dec_no (HE.out.trans rfl))
        go_wp2_with fail
        refine bodyPost_ret (v := .tuple #[K.zero.v, .bool false]) (by simp [results, Try.results85, go_sem, K.v, K.zero, z0, z1, z2]) rfl ?_
        exact ⟨by unfold DkE; rw [HD.out.1, HD.out.2], HB3.out _ _ _⟩
       | true =>
        have HD := Lib.hid (dec_yes (HE.out.trans rfl))
        go_wp2_with fail
        refine bodyPost_ret (v := .tuple #[K.v ⟨x, N, S⟩, .bool true]) (by simp [results, Try.results85, go_sem, K.v, z0, z1, z2]) rfl ?_
        exact ⟨by unfold DkE; rw [HD.out.1, HD.out.2], HB3.out _ _ _⟩
      ·
       go_wp2_with fail
       go_at_call 40
       rw [← hw2]
       clear hw2 hcw
       refine (HK.out w2).mono ?_
       rintro e w3 ⟨rfl, h3⟩
       have T3 := Lib.hid (T0.out.next h3)
       clear h3
       obtain ⟨z0, z1, z2, f0, f1, f2⟩ := Row.facts3 T3.out.z
       obtain ⟨y0, y1, y2, -, -, -⟩ := Row.facts3 (show Row w3 (w.heap.size + 1) 31 #[.int .i64 x, .int .i64 N, .string S] from T3.out.k)
       have HB3 := Lib.hid (fun (x y z : Value) => ((T3.out.b.setCell (p := ⟨w.heap.size, 0, none⟩) (Nat.le_refl _) x).setCell (p := ⟨w.heap.size, 1, none⟩) (Nat.le_refl _) y).setCell (p := ⟨w.heap.size, 2, none⟩) (Nat.le_refl _) z)
       cases ik with
       | false =>
        have HD := Lib.hid (dec_no (HE.out.trans rfl))
        go_wp2_with fail
        refine bodyPost_ret (v := .tuple #[K.zero.v, .bool false]) (by simp [results, Try.results85, go_sem, K.v, K.zero, z0, z1, z2]) rfl ?_
        exact ⟨by unfold DkE; rw [HD.out.1, HD.out.2], HB3.out _ _ _⟩
       | true =>
        have HD := Lib.hid (dec_yes (HE.out.trans rfl))
        go_wp2_with fail
        refine bodyPost_ret (v := .tuple #[K.v ⟨x, N, S⟩, .bool true]) (by simp [results, Try.results85, go_sem, K.v, z0, z1, z2]) rfl ?_
        exact ⟨by unfold DkE; rw [HD.out.1, HD.out.2], HB3.out _ _ _⟩
end Go.Proofs.Ythiidcflpgbogaa.L4

namespace Go.Proofs.Ythiidcflpgbogaa.L6
open L4 (K isK cmpK R inR encU)
open L5 (F isR isN cellsF encR eqR Small)
open Go.ChangeShapes Go.WideShapes Go.ChangeAt Go.RowKit Mem Sl Ex L2 Sv Bag

theorem encU_small (k : K) : (encU k).length ≤ 50 := by
 unfold encU
 split
 ·
  rename_i h
  have h2 := h
  unfold isK at h2
  simp only [Bool.and_eq_true] at h2
  have h3 : k.t.length ≤ 12 := by
   have h4 := h2.1.2
   unfold L4.isT at h4
   simp only [Bool.and_eq_true, decide_eq_true_eq] at h4
   omega
  simp only [List.length_cons, List.length_append]
  have h5 : (L4.num6 k).length ≤ 6 := by unfold L4.num6; split <;> simp
  omega
 ·
  simp
end Go.Proofs.Ythiidcflpgbogaa.L6

namespace Go.Proofs.Ythiidcflpgbogaa.L9
open V L6
open L2 Ex
open L4 (K isK encU toU toI)
open L5 (F isR isN encR decL)
open Go.ChangeShapes Go.WideShapes Go.ChangeAt Go.RowKit Mem Sl

def bsB (m : List Int) : List Int := enc m.length ++ m
def encO (o : X_Op) : List Int := enc o.f_Kind ++ (bsB (L3.strB o.f_Store) ++ (bsB (toI (encU o.f_Key)) ++ (bsB (encR o.f_Record) ++ bsB (L3.strB o.f_Field))))
def encOs (l : List X_Op) : List Int := l.flatMap encO
def okL (l : List X_Op) : Bool := decide (l.length ≤ 6) && l.all isO
def encL (l : List X_Op) : List Int := if okL l then enc l.length ++ encOs l else []
theorem encOs_take {l : List X_Op} {k : Nat} {o : X_Op} (h : l[k]? = some o) : encOs (l.take (k + 1)) = encOs (l.take k) ++ encO o := by
 unfold encOs
 rw [take_next h, List.flatMap_append]
 simp
theorem bsB_len (m : List Int) : (bsB m).length ≤ m.length + 6 := by
 have h := enc_len m.length
 unfold bsB
 rw [List.length_append]
 omega
theorem strB_len (s : ByteArray) : (L3.strB s).length = s.data.toList.length := by unfold L3.strB; rw [List.length_map]
theorem isN_len {s : ByteArray} (h : isN s.data.toList = true) : (L3.strB s).length ≤ 8 := by
 unfold isN at h
 simp only [Bool.and_eq_true, decide_eq_true_eq] at h
 rw [strB_len]
 exact h.2.2
theorem key_len (k : K) : (toI (encU k)).length ≤ 50 := by
 rw [L4.toI_length]
 have h := encU_small k
 omega
theorem rec_len (l : List F) : (encR l).length ≤ 160 := by
 unfold encR
 split
 ·
  rename_i h
  have h1 := L5.encB_len l (L5.isR_names h)
  have h2 := enc_len l.length
  have h3 : l.length ≤ 6 := by
   unfold isR at h
   simp only [Bool.and_eq_true, decide_eq_true_eq] at h
   omega
  rw [List.length_append]
  omega
 ·
  simp
structure Parts (o : X_Op) : Prop where
 kind : 1 ≤ o.f_Kind ∧ o.f_Kind ≤ 6
 store : (L3.strB o.f_Store).length ≤ 8
 key : (toI (encU o.f_Key)).length ≤ 50
 record : (encR o.f_Record).length ≤ 160
 field : (L3.strB o.f_Field).length ≤ 8
 valid : isR o.f_Record = true
theorem isO_parts {o : X_Op} (h : isO o = true) : Parts o := by
 unfold isO at h
 simp only [Bool.and_eq_true] at h
 obtain ⟨h1, h2, h3, h4, h5⟩ := h
 refine ⟨L1.inB_true.1 h1, isN_len h2, key_len _, rec_len _, ?_, h4⟩
 unfold fldO at h5
 split at h5
 ·
  exact isN_len h5
 ·
  rw [beq_iff_eq, ByteArray.toList_eq] at h5
  rw [strB_len, h5]
  simp
theorem encO_len {o : X_Op} (h : isO o = true) : (encO o).length ≤ 256 := by
 obtain ⟨h1, h2, h3, h4, h5, _⟩ := isO_parts h
 have a0 := enc_len o.f_Kind
 have a1 := bsB_len (L3.strB o.f_Store)
 have a2 := bsB_len (toI (encU o.f_Key))
 have a3 := bsB_len (encR o.f_Record)
 have a4 := bsB_len (L3.strB o.f_Field)
 unfold encO
 simp only [List.length_append]
 omega
theorem encOs_len : ∀ {l : List X_Op}, (∀ o ∈ l, isO o = true) → (encOs l).length ≤ 256 * l.length
 | [], _ => by simp [encOs]
 | o :: l, h => by
  have h1 := encO_len (h o (List.mem_cons_self ..))
  have h2 := encOs_len (l := l) fun x hx => h x (List.mem_cons_of_mem _ hx)
  unfold encOs at h2 ⊢
  rw [List.flatMap_cons, List.length_append, List.length_cons]
  omega
theorem okL_no {l : List X_Op} {k : Nat} {o : X_Op} (h : l[k]? = some o) (hb : isO o = false) : encL l = [] := by
 unfold encL okL
 rw [show l.all isO = false from by
  cases ha : l.all isO with
  | false => rfl
  | true => rw [List.all_eq_true] at ha; rw [ha o (List.mem_of_getElem? h)] at hb; cases hb]
 simp
theorem okL_many {l : List X_Op} (h : ¬ l.length ≤ 6) : encL l = [] := by
 unfold encL okL
 simp [h]
theorem okL_yes {l : List X_Op} (h : l.length ≤ 6) (ha : ∀ k (hk : k < l.length), isO l[k] = true) : encL l = enc l.length ++ encOs l := by
 unfold encL okL
 rw [show l.all isO = true from List.all_eq_true.2 fun o ho => by obtain ⟨k, hk, rfl⟩ := List.getElem_of_mem ho; exact ha k hk]
 simp [h]
theorem okL_parts {l : List X_Op} (h : okL l = true) : l.length ≤ 6 ∧ ∀ o ∈ l, isO o = true := by
 unfold okL at h
 rw [Bool.and_eq_true, decide_eq_true_eq, List.all_eq_true] at h
 exact h
structure Lim where
 a : Int
 b : Int
 c : Int
 d : Int
def strU (v : List Int) : ByteArray := ⟨(toU v).toArray⟩
theorem strU_strB (s : ByteArray) : strU (L3.strB s) = s := by
 show (⟨(toU (toI s.data.toList)).toArray⟩ : ByteArray) = s
 rw [L4.toU_toI]
def p1 (l : List Int) (off : Int) : Int := rdE l off
def p2 (m : Lim) (l : List Int) (off : Int) : Int := rbE l (p1 l off) m.a
def p3 (m : Lim) (l : List Int) (off : Int) : Int := rbE l (p2 m l off) m.b
def p4 (m : Lim) (l : List Int) (off : Int) : Int := rbE l (p3 m l off) m.c
def p5 (m : Lim) (l : List Int) (off : Int) : Int := rbE l (p4 m l off) m.d
def opB_ (m : Lim) (l : List Int) (off : Int) : Bool := rdB l off && (rbB l (p1 l off) m.a && (rbB l (p2 m l off) m.b && (rbB l (p3 m l off) m.c && rbB l (p4 m l off) m.d)))
def opX_ (m : Lim) (l : List Int) (off : Int) : X_Op := ⟨rdN l off, strU (rbL l (p1 l off) m.a), L4.decK (rbL l (p2 m l off) m.b), decL (rbL l (p3 m l off) m.c), strU (rbL l (p4 m l off) m.d)⟩
def rdOp (m : Lim) (l : List Int) (off : Int) : Option (X_Op × Int) := if opB_ m l off then some (opX_ m l off, p5 m l off) else none
def rdAll (m : Lim) (l : List Int) : Int → Nat → Option (List X_Op × Int)
 | off, 0 => some ([], off)
 | off, k + 1 => match rdOp m l off with
  | none => none
  | some (o, e) => match rdAll m l e k with
   | none => none
   | some (os, e2) => some (o :: os, e2)
def rdL (m : Lim) (l : List Int) : Option (List X_Op) := if rdB l 0 && decide (rdN l 0 ≤ 6) then (rdAll m l (rdE l 0) (rdN l 0).toNat).map (·.1) else none
def dcO (m : Lim) (l : List Int) : Option (List X_Op) := match rdL m l with
 | none => none
 | some os => if eqB (encL os) l then some os else none
def norm (o : X_Op) : X_Op := if isK o.f_Key then o else { o with f_Key := K.zero }
theorem norm_op (o : X_Op) : (norm o).f_Kind = o.f_Kind ∧ (norm o).f_Store = o.f_Store ∧ (norm o).f_Record = o.f_Record ∧ (norm o).f_Field = o.f_Field ∧ encU (norm o).f_Key = encU o.f_Key ∧ isK (norm o).f_Key = isK o.f_Key := by
 unfold norm
 split
 ·
  exact ⟨rfl, rfl, rfl, rfl, rfl, rfl⟩
 ·
  rename_i h
  have h1 : isK o.f_Key = false := by simpa using h
  have hz : isK K.zero = false := by decide
  refine ⟨rfl, rfl, rfl, rfl, ?_, ?_⟩
  ·
   show encU K.zero = _
   unfold encU
   rw [hz, h1]
   rfl
  ·
   rw [h1]; exact hz
theorem norm_isO (o : X_Op) : isO (norm o) = isO o := by
 obtain ⟨h1, h2, h3, h4, _, h6⟩ := norm_op o
 unfold isO keyO fldO
 rw [h1, h2, h3, h4, h6]
theorem norm_enc (o : X_Op) : encO (norm o) = encO o := by
 obtain ⟨h1, h2, h3, h4, h5, _⟩ := norm_op o
 unfold encO
 rw [h1, h2, h3, h4, h5]
theorem norm_all (l : List X_Op) : encL (l.map norm) = encL l := by
 have h1 : okL (l.map norm) = okL l := by
  unfold okL
  rw [List.length_map, List.all_map]
  congr 2
  funext o
  exact norm_isO o
 have h2 : encOs (l.map norm) = encOs l := by
  unfold encOs
  rw [List.flatMap_map]
  congr 1
  funext o
  exact norm_enc o
 unfold encL
 rw [h1, h2, List.length_map]

theorem rb_enc (p t v : List Int) (m : Int) (hv : v.length ≤ 1000) (hm : (v.length : Int) ≤ m) :
  rbB (p ++ (bsB v ++ t)) p.length m = true ∧ rbL (p ++ (bsB v ++ t)) p.length m = v ∧ rbE (p ++ (bsB v ++ t)) p.length m = ((p ++ bsB v).length : Nat) := by
 have e0 : p ++ (bsB v ++ t) = p ++ (enc v.length ++ (v ++ t)) := by unfold bsB; simp only [List.append_assoc]
 have a1 := rd_enc p (v ++ t) v.length (by omega) (by omega)
 rw [← e0] at a1
 have e1 : p ++ (bsB v ++ t) = (p ++ enc v.length ++ v) ++ t := by rw [e0]; simp only [List.append_assoc]
 obtain ⟨L, hL⟩ : ∃ L, L = p ++ (bsB v ++ t) := ⟨_, rfl⟩
 have hLl : L.length = p.length + (enc v.length).length + v.length + t.length := by rw [hL, e1]; simp only [List.length_append]
 rw [← hL] at a1 ⊢
 have b1 := rdN_of a1
 have b2 := rdE_of a1
 have b3 := rdB_of a1
 have hb : rbB L p.length m = true := by
  unfold rbB
  rw [b1, b2, b3]
  simp only [Bool.true_and, Bool.and_eq_true, decide_eq_true_eq]
  omega
 obtain ⟨y1, y2⟩ := rb_yes hb
 rw [b1, b2] at y1 y2
 refine ⟨hb, ?_, ?_⟩
 ·
  rw [y1, hL, e1, show ((p.length : Int) + ((enc v.length).length : Nat)).toNat = (p ++ enc v.length).length by rw [List.length_append]; omega]
  rw [List.append_assoc (p ++ enc v.length), List.drop_left, Int.toNat_natCast, List.take_left]
 ·
  rw [y2]
  unfold bsB
  simp only [List.length_append]
  omega
structure Room (m : Lim) (o : X_Op) : Prop where
 a : ((L3.strB o.f_Store).length : Int) ≤ m.a
 b : ((toI (encU o.f_Key)).length : Int) ≤ m.b
 c : ((encR o.f_Record).length : Int) ≤ m.c
 d : ((L3.strB o.f_Field).length : Int) ≤ m.d
theorem decK_enc (k : K) : L4.decK (toI (encU k)) = if isK k then k else K.zero := by
 unfold L4.decK L4.oK
 rw [L4.toU_toI]
 cases h : isK k with
 | true => rw [L4.dec_enc h]; rfl
 | false =>
  rw [show encU k = [] from by unfold encU; rw [h]; rfl]
  rfl
theorem decL_enc {l : List F} (h : isR l = true) : decL (encR l) = l := by
 unfold decL
 rw [L5.decR_enc h]
 rfl
theorem rdOp_enc (m : Lim) (p t : List Int) (o : X_Op) (ho : isO o = true) (hm : Room m o) :
  rdOp m (p ++ (encO o ++ t)) p.length = some (norm o, (((p ++ encO o).length : Nat) : Int)) := by
 obtain ⟨hk, h1, h2, h3, h4, hr⟩ := isO_parts ho
 obtain ⟨A, hA⟩ : ∃ x, x = L3.strB o.f_Store := ⟨_, rfl⟩
 obtain ⟨B, hB⟩ : ∃ x, x = toI (encU o.f_Key) := ⟨_, rfl⟩
 obtain ⟨C, hC⟩ : ∃ x, x = encR o.f_Record := ⟨_, rfl⟩
 obtain ⟨D, hD⟩ : ∃ x, x = L3.strB o.f_Field := ⟨_, rfl⟩
 obtain ⟨m1, m2, m3, m4⟩ := hm
 rw [← hA] at h1 m1
 rw [← hB] at h2 m2
 rw [← hC] at h3 m3
 rw [← hD] at h4 m4
 have he : encO o = enc o.f_Kind ++ (bsB A ++ (bsB B ++ (bsB C ++ bsB D))) := by unfold encO; rw [hA, hB, hC, hD]
 obtain ⟨L, hL⟩ : ∃ L, L = p ++ (encO o ++ t) := ⟨_, rfl⟩
 have e0 : L = p ++ (enc o.f_Kind ++ (bsB A ++ (bsB B ++ (bsB C ++ (bsB D ++ t))))) := by rw [hL, he]; simp only [List.append_assoc]
 have e1 : L = (p ++ enc o.f_Kind) ++ (bsB A ++ (bsB B ++ (bsB C ++ (bsB D ++ t)))) := by rw [e0]; simp only [List.append_assoc]
 have e2 : L = ((p ++ enc o.f_Kind) ++ bsB A) ++ (bsB B ++ (bsB C ++ (bsB D ++ t))) := by rw [e0]; simp only [List.append_assoc]
 have e3 : L = (((p ++ enc o.f_Kind) ++ bsB A) ++ bsB B) ++ (bsB C ++ (bsB D ++ t)) := by rw [e0]; simp only [List.append_assoc]
 have e4 : L = ((((p ++ enc o.f_Kind) ++ bsB A) ++ bsB B) ++ bsB C) ++ (bsB D ++ t) := by rw [e0]; simp only [List.append_assoc]
 have a0 := rd_enc p (bsB A ++ (bsB B ++ (bsB C ++ (bsB D ++ t)))) o.f_Kind (by omega) (by omega)
 rw [← e0] at a0
 have a1 := rb_enc (p ++ enc o.f_Kind) (bsB B ++ (bsB C ++ (bsB D ++ t))) A m.a (by omega) m1
 rw [← e1] at a1
 have a2 := rb_enc ((p ++ enc o.f_Kind) ++ bsB A) (bsB C ++ (bsB D ++ t)) B m.b (by omega) m2
 rw [← e2] at a2
 have a3 := rb_enc (((p ++ enc o.f_Kind) ++ bsB A) ++ bsB B) (bsB D ++ t) C m.c (by omega) m3
 rw [← e3] at a3
 have a4 := rb_enc ((((p ++ enc o.f_Kind) ++ bsB A) ++ bsB B) ++ bsB C) t D m.d (by omega) m4
 rw [← e4] at a4
 rw [← hL]
 have q1 : p1 L p.length = ((p ++ enc o.f_Kind).length : Nat) := by unfold p1; rw [rdE_of a0, List.length_append]; omega
 have q2 : p2 m L p.length = (((p ++ enc o.f_Kind) ++ bsB A).length : Nat) := by unfold p2; rw [q1]; exact a1.2.2
 have q3 : p3 m L p.length = ((((p ++ enc o.f_Kind) ++ bsB A) ++ bsB B).length : Nat) := by unfold p3; rw [q2]; exact a2.2.2
 have q4 : p4 m L p.length = (((((p ++ enc o.f_Kind) ++ bsB A) ++ bsB B) ++ bsB C).length : Nat) := by unfold p4; rw [q3]; exact a3.2.2
 have q5 : p5 m L p.length = ((p ++ encO o).length : Nat) := by unfold p5; rw [q4, a4.2.2, he]; simp only [List.append_assoc]
 have hb : opB_ m L p.length = true := by unfold opB_; rw [q1, q2, q3, q4, rdB_of a0, a1.1, a2.1, a3.1, a4.1]; rfl
 unfold rdOp
 rw [hb, if_pos rfl, q5]
 unfold opX_
 rw [q1, q2, q3, q4, rdN_of a0, a1.2.1, a2.2.1, a3.2.1, a4.2.1, hA, hB, hC, hD, strU_strB, strU_strB, decK_enc, decL_enc hr]
 unfold norm
 cases isK o.f_Key <;> rfl
theorem rdAll_enc (m : Lim) : ∀ (os : List X_Op) (p t : List Int), (∀ o ∈ os, isO o = true) → (∀ o ∈ os, Room m o) → rdAll m (p ++ (encOs os ++ t)) p.length os.length = some (os.map norm, (((p ++ encOs os).length : Nat) : Int))
 | [], p, t, _, _ => by simp [rdAll, encOs]
 | o :: os, p, t, h, hm => by
  have e : p ++ (encOs (o :: os) ++ t) = p ++ (encO o ++ (encOs os ++ t)) := by unfold encOs; rw [List.flatMap_cons, List.append_assoc]
  have e2 : p ++ (encO o ++ (encOs os ++ t)) = (p ++ encO o) ++ (encOs os ++ t) := by rw [List.append_assoc]
  have e3 : p ++ encOs (o :: os) = p ++ encO o ++ encOs os := by unfold encOs; rw [List.flatMap_cons, List.append_assoc]
  rw [List.length_cons, rdAll, e, rdOp_enc m p _ o (h o (List.mem_cons_self ..)) (hm o (List.mem_cons_self ..))]
  simp only
  rw [e2, rdAll_enc m os (p ++ encO o) t (fun g hg => h g (List.mem_cons_of_mem _ hg)) (fun g hg => hm g (List.mem_cons_of_mem _ hg)), e3]
  rfl
theorem dc_enc {m : Lim} {l : List X_Op} (h : okL l = true) (hm : ∀ o ∈ l, Room m o) : dcO m (encL l) = some (l.map norm) := by
 obtain ⟨h1, h2⟩ := okL_parts h
 have e : encL l = [] ++ (enc l.length ++ (encOs l ++ [])) := by unfold encL; rw [h, if_pos rfl]; simp
 have e2 : encL l = enc l.length ++ (encOs l ++ []) := by rw [e]; rfl
 have a := rd_enc [] (encOs l ++ []) l.length (by omega) (by omega)
 rw [← e] at a
 have a' : rd (encL l) 0 = some ((l.length : Int), (enc l.length).length) := a
 have b := rdAll_enc m l (enc l.length) [] h2 hm
 rw [← e2] at b
 have c1 := rdN_of a'
 have c2 := rdE_of a'
 have c3 := rdB_of a'
 unfold dcO rdL
 rw [c3, c1, c2, Int.toNat_natCast, Int.zero_add, b]
 have h6 : decide ((l.length : Int) ≤ 6) = true := decide_eq_true (by omega)
 rw [h6]
 simp only [Bool.and_self, if_true, Option.map_some]
 rw [norm_all, eqB_true rfl]
 rfl
theorem dc_out {m : Lim} {b : List Int} {l : List X_Op} (h : dcO m b = some l) : encL l = b ∧ okL l = true := by
 unfold dcO at h
 cases hr : rdL m b with
 | none => rw [hr] at h; cases h
 | some os =>
  rw [hr] at h
  dsimp only at h
  cases he : eqB (encL os) b with
  | false => rw [he] at h; cases h
  | true =>
   rw [he, if_pos rfl] at h
   cases h
   have e : encL l = b := by unfold eqB at he; exact of_decide_eq_true he
   refine ⟨e, ?_⟩
   cases ho : okL l with
   | true => rfl
   | false =>
    rw [show encL l = [] from by unfold encL; rw [ho]; rfl] at e
    subst e
    unfold rdL at hr
    rw [show rdB [] 0 = false from by decide] at hr
    cases hr
theorem dc_same {m m' : Lim} {b : List Int} (hm : ∀ l o, encL l = b → okL l = true → o ∈ l → Room m o) (hm' : ∀ l o, encL l = b → okL l = true → o ∈ l → Room m' o) : dcO m b = dcO m' b := by
 have key : ∀ {m m' : Lim}, (∀ l o, encL l = b → okL l = true → o ∈ l → Room m o) → (∀ l o, encL l = b → okL l = true → o ∈ l → Room m' o) → ∀ l, dcO m b = some l → dcO m' b = some l := fun {m m'} h h' l hl => by
  obtain ⟨e, ho⟩ := dc_out hl
  have a := dc_enc (m := m) ho fun o hx => h l o e ho hx
  have a' := dc_enc (m := m') ho fun o hx => h' l o e ho hx
  rw [e] at a a'
  rw [a', ← a, hl]
 cases h1 : dcO m b with
 | some l => exact (key hm hm' l h1).symm
 | none =>
  cases h2 : dcO m' b with
  | none => rfl
  | some l => rw [key hm' hm l h2] at h1; cases h1
def limS : Lim := ⟨100, 100, 200, 100⟩
def limI (b : List Int) : Lim := ⟨b.length, b.length, b.length, b.length⟩
theorem part_le {l : List X_Op} {o : X_Op} (h : okL l = true) (ho : o ∈ l) : (encO o).length ≤ (encL l).length := by
 have h1 : (encO o).length ≤ (encOs l).length := by
  obtain ⟨k, hk, rfl⟩ := List.getElem_of_mem ho
  have e : encOs l = encOs (l.take k) ++ (encO l[k] ++ encOs (l.drop (k + 1))) := by
   unfold encOs
   conv => lhs; rw [split_next (List.getElem?_eq_getElem hk)]
   rw [List.flatMap_append, List.flatMap_cons]
  rw [e]
  simp only [List.length_append]
  omega
 unfold encL
 rw [h, if_pos rfl, List.length_append]
 omega
theorem dc_lims (b : List Int) : dcO limS b = dcO (limI b) b := by
 refine dc_same (fun l o e hl ho => ?_) (fun l o e hl ho => ?_)
 ·
  obtain ⟨_, h1, h2, h3, h4, _⟩ := isO_parts ((okL_parts hl).2 o ho)
  exact ⟨by show _ ≤ (100 : Int); omega, by show _ ≤ (100 : Int); omega, by show _ ≤ (200 : Int); omega, by show _ ≤ (100 : Int); omega⟩
 ·
  have h := part_le hl ho
  rw [e] at h
  unfold encO bsB at h
  simp only [List.length_append] at h
  exact ⟨by show _ ≤ (b.length : Int); omega, by show _ ≤ (b.length : Int); omega, by show _ ≤ (b.length : Int); omega, by show _ ≤ (b.length : Int); omega⟩
end Go.Proofs.Ythiidcflpgbogaa.L9

namespace Go.Proofs.Ythiidcflpgbogaa.L9
open V L6
open L2 Ex
open L4 (K isK encU toU toI decK)
open L5 (F isR isN encR decL Small)
open Go.ChangeShapes Go.WideShapes Go.ChangeAt Go.RowKit Mem Sl Bag

def zO : X_Op := ⟨0, ⟨#[]⟩, K.zero, [], ⟨#[]⟩⟩
def roX (m : Lim) (l : List Int) (off : Int) : X_Op := if opB_ m l off then opX_ m l off else zO
def roE (m : Lim) (l : List Int) (off : Int) : Int := if opB_ m l off then p5 m l off else 0
theorem ro_yes {m : Lim} {l : List Int} {off : Int} (h : opB_ m l off = true) : roX m l off = opX_ m l off ∧ roE m l off = p5 m l off ∧ rdOp m l off = some (roX m l off, roE m l off) := by
 unfold roX roE rdOp
 rw [h]
 exact ⟨rfl, rfl, rfl⟩
theorem ro_no {m : Lim} {l : List Int} {off : Int} (h : opB_ m l off = false) : roX m l off = zO ∧ roE m l off = 0 ∧ rdOp m l off = none := by
 unfold roX roE rdOp
 rw [h]
 exact ⟨rfl, rfl, rfl⟩
theorem rb_place {l : List Int} (hl : Byt l) (off most : Int) : 0 ≤ rbE l off most ∧ rbE l off most ≤ l.length := by
 cases h : rbB l off most with
 | false => rw [(rb_no h).2]; omega
 | true =>
  rw [(rb_yes h).2]
  have hb := rd_bounds hl off
  unfold rbB at h
  simp only [Bool.and_eq_true, decide_eq_true_eq] at h
  omega
theorem rb_size (l : List Int) (off most : Int) : (rbL l off most).length ≤ l.length := by
 cases h : rbB l off most with
 | false => rw [(rb_no h).1]; simp
 | true => rw [(rb_yes h).1, List.length_take, List.length_drop]; omega
theorem rb_byt {l : List Int} (hl : Byt l) (off most : Int) : Byt (rbL l off most) := by
 cases h : rbB l off most with
 | false => rw [(rb_no h).1]; exact fun x hx => by cases hx
 | true => rw [(rb_yes h).1]; exact fun x hx => hl x (List.mem_of_mem_drop (List.mem_of_mem_take hx))
theorem roE_place {l : List Int} (hl : Byt l) (m : Lim) (off : Int) : 0 ≤ roE m l off ∧ roE m l off ≤ l.length := by
 unfold roE
 split
 ·
  exact rb_place hl _ _
 ·
  omega
theorem isK_text {k : K} (h : isK k = true) : k.text.size ≤ 12 := by
 unfold isK at h
 simp only [Bool.and_eq_true] at h
 have h2 := h.1.2
 unfold L4.isT at h2
 simp only [Bool.and_eq_true, decide_eq_true_eq] at h2
 have h3 : k.t.length = k.text.size := by unfold L4.K.t; rw [Array.length_toList]; rfl
 omega
theorem decK_text (l : List Int) : (decK l).text.size ≤ 12 := by
 unfold decK L4.oK
 cases h : L4.decO (toU l) with
 | none => exact Nat.zero_le _
 | some k => exact isK_text (L4.dec_some h).1
theorem isR_small {l : List F} (h : isR l = true) : l.length ≤ 6 ∧ Small l := by
 have h1 : l.length ≤ 6 := by
  unfold isR at h
  simp only [Bool.and_eq_true, decide_eq_true_eq] at h
  omega
 refine ⟨h1, fun f hf => ?_⟩
 have h2 := L5.isR_names h f hf
 unfold isN at h2
 simp only [Bool.and_eq_true, decide_eq_true_eq] at h2
 have h3 : f.t.length = f.name.size := by unfold L5.F.t; rw [Array.length_toList]; rfl
 have h4 := h2.2.2
 omega
theorem decL_small {l : List Int} (hl : Byt l) : (decL l).length ≤ 6 ∧ Small (decL l) := by
 unfold decL
 cases h : L5.decR l with
 | none => exact ⟨Nat.zero_le _, fun f hf => by cases hf⟩
 | some fs => exact isR_small (L5.decR_out hl h).1
theorem strU_size (v : List Int) : (strU v).size = v.length := by
 unfold strU toU
 show (List.toArray _).size = _
 simp
theorem strU_nums (v : List Int) : strU v = strOfNums v := L5.name_str v
theorem roX_fit {l : List Int} (hl : Byt l) (hs : l.length ≤ 1099511627776) (m : Lim) (off : Int) : FitO (roX m l off) := by
 cases h : opB_ m l off with
 | false =>
  rw [(ro_no h).1]
  exact ⟨Nat.zero_le _, Nat.zero_le _, Nat.zero_le _, (fun f hf => by cases hf), Nat.zero_le _⟩
 | true =>
  rw [(ro_yes h).1]
  have a1 := rb_size l (p1 l off) m.a
  have a2 := rb_size l (p4 m l off) m.d
  have a3 := decK_text (rbL l (p2 m l off) m.b)
  have a4 := decL_small (rb_byt hl (p3 m l off) m.c)
  refine ⟨?_, ?_, ?_, a4.2, ?_⟩
  ·
   show (strU _).size ≤ _
   rw [strU_size]; omega
  ·
   show (decK _).text.size ≤ _
   omega
  ·
   show (decL _).length ≤ _
   omega
  ·
   show (strU _).size ≤ _
   rw [strU_size]; omega
def RaMid (m : Lim) (l : List Int) (off : Int) (n k : Nat) (acc : List X_Op) (o : Int) : Prop := acc.length = k ∧ rdAll m l off n = (rdAll m l o (n - k)).map fun p => (acc ++ p.1, p.2)
theorem RaMid.start (m : Lim) (l : List Int) (off : Int) (n : Nat) : RaMid m l off n 0 [] off := ⟨rfl, by simp⟩
theorem RaMid.fail {m : Lim} {l : List Int} {off : Int} {n k : Nat} {acc : List X_Op} {o : Int} (h : RaMid m l off n k acc o) (hk : k < n) (hr : rdOp m l o = Option.none) : rdAll m l off n = Option.none := by
 rw [h.2, show n - k = (n - (k + 1)) + 1 by omega, rdAll, hr]
 rfl
theorem RaMid.next {m : Lim} {l : List Int} {off : Int} {n k : Nat} {acc : List X_Op} {o e : Int} {x : X_Op} (h : RaMid m l off n k acc o) (hk : k < n) (hr : rdOp m l o = some (x, e)) : RaMid m l off n (k + 1) (acc ++ [x]) e := by
 refine ⟨by rw [List.length_append, h.1]; rfl, ?_⟩
 rw [h.2, show n - k = (n - (k + 1)) + 1 by omega, rdAll, hr]
 dsimp only
 cases rdAll m l e (n - (k + 1)) with
 | none => rfl
 | some q => simp
theorem RaMid.done {m : Lim} {l : List Int} {off : Int} {n : Nat} {acc : List X_Op} {o : Int} (h : RaMid m l off n n acc o) : rdAll m l off n = some (acc, o) := by
 rw [h.2, Nat.sub_self]
 simp [rdAll]
theorem rdL_no {m : Lim} {l : List Int} (h : (rdB l 0 && decide (rdN l 0 ≤ 6)) = false) : rdL m l = none := by unfold rdL; rw [h]; rfl
theorem rdL_none {m : Lim} {l : List Int} (h : rdAll m l (rdE l 0) (rdN l 0).toNat = none) : rdL m l = none := by unfold rdL; rw [h]; split <;> rfl
theorem rdL_some {m : Lim} {l : List Int} {os : List X_Op} {e : Int} (h0 : (rdB l 0 && decide (rdN l 0 ≤ 6)) = true) (h : rdAll m l (rdE l 0) (rdN l 0).toNat = some (os, e)) : rdL m l = some os := by unfold rdL; rw [h0, h]; rfl
def dcL (m : Lim) (l : List Int) : List X_Op := (dcO m l).getD []
def dcB (m : Lim) (l : List Int) : Bool := (dcO m l).isSome
theorem dc_no {m : Lim} {l : List Int} (h : dcO m l = none) : dcL m l = [] ∧ dcB m l = false := by unfold dcL dcB; rw [h]; exact ⟨rfl, rfl⟩
theorem dc_yes {m : Lim} {l : List Int} {os : List X_Op} (h : dcO m l = some os) : dcL m l = os ∧ dcB m l = true := by unfold dcL dcB; rw [h]; exact ⟨rfl, rfl⟩
theorem dcO_none {m : Lim} {l : List Int} (h : rdL m l = none) : dcO m l = none := by unfold dcO; rw [h]
theorem dcO_eq {m : Lim} {l : List Int} {os : List X_Op} (h : rdL m l = some os) : dcO m l = if eqB (encL os) l then some os else none := by unfold dcO; rw [h]
theorem enc_byt (n : Int) : Byt (enc n) := enc_byte n
theorem app_byt {a b : List Int} (ha : Byt a) (hb : Byt b) : Byt (a ++ b) := fun x hx => (List.mem_append.1 hx).elim (ha x) (hb x)
theorem bsB_byt {a : List Int} (ha : Byt a) : Byt (bsB a) := app_byt (enc_byt _) ha
theorem encF_byt (f : F) : Byt (L5.encF f) := app_byt (app_byt (enc_byt _) (L3.strB_byt _)) (enc_byt _)
theorem encR_byt (l : List F) : Byt (encR l) := by
 unfold encR
 split
 ·
  refine app_byt (enc_byt _) fun x hx => ?_
  obtain ⟨f, _, hf⟩ := List.mem_flatMap.1 hx
  exact encF_byt f x hf
 ·
  exact fun x hx => by cases hx
theorem encO_byt (o : X_Op) : Byt (encO o) := app_byt (enc_byt _) (app_byt (bsB_byt (L3.strB_byt _)) (app_byt (bsB_byt (L4.toI_byt _)) (app_byt (bsB_byt (encR_byt _)) (bsB_byt (L3.strB_byt _)))))
theorem encL_byt (l : List X_Op) : Byt (encL l) := by
 unfold encL
 split
 ·
  refine app_byt (enc_byt _) fun x hx => ?_
  obtain ⟨o, _, ho⟩ := List.mem_flatMap.1 hx
  exact encO_byt o x ho
 ·
  exact fun x hx => by cases hx
theorem ro_parts {ma mb mc md : Int} {l : List Int} {off kd q1 q2 q3 q4 q5 : Int} {b0 b1 b2 b3 b4 : Bool} {L1 L2 L3 L4 : List Int} (h0 : rdN l off = kd) (hq1 : rdE l off = q1) (hb0 : rdB l off = b0)
  (h1 : rbL l q1 ma = L1) (hq2 : rbE l q1 ma = q2) (hb1 : rbB l q1 ma = b1) (h2 : rbL l q2 mb = L2) (hq3 : rbE l q2 mb = q3) (hb2 : rbB l q2 mb = b2)
  (h3 : rbL l q3 mc = L3) (hq4 : rbE l q3 mc = q4) (hb3 : rbB l q3 mc = b3) (h4 : rbL l q4 md = L4) (hq5 : rbE l q4 md = q5) (hb4 : rbB l q4 md = b4) :
  opB_ ⟨ma, mb, mc, md⟩ l off = (b0 && (b1 && (b2 && (b3 && b4)))) ∧ opX_ ⟨ma, mb, mc, md⟩ l off = ⟨kd, strU L1, decK L2, decL L3, strU L4⟩ ∧ p5 ⟨ma, mb, mc, md⟩ l off = q5 := by
 subst h0 hq1 hb0 h1 hq2 hb1 h2 hq3 hb2 h3 hq4 hb3 h4 hq5 hb4
 exact ⟨rfl, rfl, rfl⟩
theorem infoO : ∃ i, Try.prog.info? 36 = some i ∧ i.zero = some (.agg #[.int .i64 0, .string ⟨#[]⟩, .int .i64 0, .int .i64 0, .string ⟨#[]⟩, .slice none 0 0, .string ⟨#[]⟩]) ∧ i.size = 7 ∧ i.bytes = 96 := infoOf _ _ _ _ (by kernel_rfl)
def GaveO (w : World) (x : X_Op) (n : Int) (b : Bool) (e : Ending) (w' : World) : Prop :=
 ∃ y : Y_Op, e = .returned (.tuple #[vv_Op y, .int .i64 n, .bool b]) ∧ co_Op y = x ∧ BagOwn w' w.heap.size (rw_Op y) ∧ Below w.heap.size w w'
def GaveOs (w : World) (xs : List X_Op) (b : Bool) (e : Ending) (w' : World) : Prop :=
 ∃ (a : Option Addr) (c : Nat) (ys : List Y_Op), e = .returned (.tuple #[.slice a ys.length c, .bool b]) ∧ coS_Op ys = xs ∧ BagOwn w' w.heap.size (rs_Op a c ys) ∧ Below w.heap.size w w'
end Go.Proofs.Ythiidcflpgbogaa.L9

namespace Go.Proofs.Ythiidcflpgbogaa.V
open Go.ChangeShapes Go.WideShapes Go.ChangeAt Go.RowKit Mem Sl Sv Bag Ex

section
variable {H : Type} {enc : TypeId × Value → H} {P : Program}
theorem open_list0 {W : World} {t e : TypeId} {k : IntKind} (ht : P.underlying t = some (.slice e)) (he : P.underlying e = some (.int k)) (hc : P.cellsOf e = 1) {b0 : Nat} {v : Value} {d : DataW H} {ps : List MemPlace}
  (hval : Value.okWide P W .any b0 t v) (h0 : DataW.Trod enc P W 0 (fun _ => true) true t v d ps) (hlt : ∀ x ∈ ps, x.block < W.heap.size) :
  ∃ (a : Option Addr) (l : List Int) (cap : Nat), v = .slice a l.length cap ∧ l.length ≤ cap ∧ (a = none → cap = 0) ∧ l.length ≤ maxLen ∧ Reads W W.heap.size a (ints k l) ∧ ∀ n ∈ l, (Lit.int k n).wf = true := by
 obtain ⟨a0, len, cap, rfl⟩ := okWide_slice ht hval
 obtain ⟨fuel, hf⟩ := h0
 rcases open_ints ht he hc hf with ⟨hcs, hx⟩ | ⟨a, len', cap', zs, hcs, _, hl, hm, hz, hx, hcell, hwz⟩
 ·
  simp [Value.cells] at hcs
  obtain ⟨rfl, rfl, rfl⟩ := hcs
  exact ⟨none, [], 0, rfl, Nat.le_refl _, fun _ => rfl, Nat.zero_le _, Reads.nil, fun n hn => by simp at hn⟩
 ·
  simp [Value.cells] at hcs
  obtain ⟨rfl, rfl, rfl⟩ := hcs
  simp only [Prod.mk.injEq] at hx
  obtain ⟨rfl, rfl⟩ := hx
  simp at hz
  have hlen : (zs.take len).length = len := by simp; omega
  refine ⟨some a, zs.take len, cap, by rw [hlen], by omega, (fun h => (by cases h)), by omega, fun j hj => ?_, fun n hn => hwz n (List.mem_of_mem_take hn)⟩
  simp at hj
  refine ⟨a, rfl, ?_, ?_⟩
  ·
   have := hlt (MemPlace.cell a.block (a.off + 0)) ?_
   ·
    simpa [MemPlace.block] using this
   ·
    exact List.mem_map.2 ⟨0, List.mem_range.2 (by omega), rfl⟩
  ·
   rw [hcell j (by omega), ints_get _ _ _ (by simp; omega)]
   simp [List.getD_eq_getElem?_getD, List.getElem?_eq_getElem (show j < zs.length by omega)]
end
structure Y_ByteZ where
 a : Option Addr
 c : Nat
 xs : List Int
def co_ByteZ (z : Y_ByteZ) : List Int := z.xs
def wt_ByteZ (c : List Int) : Nat := c.length
def vv_ByteZ (z : Y_ByteZ) : Value := .slice z.a z.xs.length z.c
def rw_ByteZ (z : Y_ByteZ) : List RowS := [⟨5, 1, z.a, z.c, z.xs.length, ints .u8 z.xs⟩]
def md_ByteZ (k : Int) (z : Y_ByteZ) : Y_ByteZ := ⟨z.a, z.c, marks .u8 k z.xs.length⟩
def ct_ByteZ (z : Y_ByteZ) : Nat := z.xs.length
def Wide_ByteZ (z : Y_ByteZ) : Prop := z.xs.length ≤ maxLen ∧ ∀ n ∈ z.xs, (Lit.int .u8 n).wf = true
theorem ctS_ByteZ (z : Y_ByteZ) : ct_ByteZ z ≤ 64 * (wt_ByteZ (co_ByteZ z) + 1) := by unfold ct_ByteZ wt_ByteZ co_ByteZ; omega
theorem rd_ByteZ {w : World} {B : Nat} {z : Y_ByteZ} (h : RowsRd w B (rw_ByteZ z)) : Reads w B z.a (ints .u8 z.xs) := (rd_head h).reads
theorem cap_ByteZ {w : World} {B : Nat} {z : Y_ByteZ} (h : RowsRd w B (rw_ByteZ z)) : z.xs.length ≤ z.c := (rd_head h).cap
theorem open_ByteZ {H : Type} {enc : TypeId × Value → H} {W : World} {b0 : Nat} {v : Value} {d : DataW H} {ps : List MemPlace} (hval : Value.okWide Try.prog W .any b0 51 v) (h0 : DataW.Trod enc Try.prog W 0 (fun _ => true) true 51 v d ps) (hlt : ∀ p ∈ ps, p.block < W.heap.size) : ∃ z : Y_ByteZ, v = vv_ByteZ z ∧ RowsRd W W.heap.size (rw_ByteZ z) ∧ Wide_ByteZ z := by
 obtain ⟨a, l, c, rfl, h1, h2, h3, h4, h5⟩ := open_list0 Try.underlying51 Try.underlying5 (by kernel_rfl) hval h0 hlt
 exact ⟨⟨a, c, l⟩, rfl, rd_cons ⟨h4, h1, h2⟩ (rd_nil _ _), h3, h5⟩
theorem to_ByteZ (z : Y_ByteZ) (hf : wt_ByteZ (co_ByteZ z) ≤ 1048576) (w : World) (hr : RowsRd w w.heap.size (rw_ByteZ z)) : Calls Try.prog 31 #[vv_ByteZ z] w fun e w' => ∃ y : Y_ByteZ, e = .returned (vv_ByteZ y) ∧ co_ByteZ y = co_ByteZ z ∧ BagOwn w' w.heap.size (rw_ByteZ y) ∧ Below w.heap.size w w' :=
 (toByteS_any z.a z.c z.xs w (rd_ByteZ hr) (Nat.le_trans hf (by decide))).mono fun _ _ ⟨a, c, he, ho, hb⟩ => ⟨⟨a, c, z.xs⟩, he, rfl, BagOwn.one ho, hb⟩
theorem eq_ByteZ (y z : Y_ByteZ) (hc : co_ByteZ y = co_ByteZ z) (hf : wt_ByteZ (co_ByteZ y) ≤ 1099511627776) (w : World) (hr : RowsRd w w.heap.size (rw_ByteZ y)) (hr2 : RowsRd w w.heap.size (rw_ByteZ z)) : Calls Try.prog 27 #[vv_ByteZ y, vv_ByteZ z] w fun e w' => e = .returned (.bool true) ∧ Below w.heap.size w w' := by
 obtain ⟨a, c, l⟩ := y
 obtain ⟨a2, c2, l2⟩ := z
 obtain rfl : l = l2 := hc
 have hl : l.length ≤ 1099511627776 := hf
 exact (eqByteS_any a a2 c c2 l l w _ (rd_ByteZ hr) (rd_ByteZ hr2) (by omega) (by omega)).mono fun _ _ ⟨he, hd⟩ => ⟨by rw [he, eqB_true rfl], hd.below _⟩
theorem mark_ByteZ {W w : World} {rs : List Res} (h : Sl.Sep W w rs) (i : Nat) {z : Y_ByteZ} (hi : rs[i]? = some (bag (rw_ByteZ z))) (k : Int) (hf : wt_ByteZ (co_ByteZ z) ≤ 1099511627776) (hk0 : 0 < k) (hk1 : k + (ct_ByteZ z : Int) ≤ 2305843009213693952) :
  Calls Try.prog 28 #[vv_ByteZ z, .int .i64 k] w fun e w' => e = .returned (.int .i64 (k + (ct_ByteZ z : Int))) ∧ Sl.Sep W w' (rs.set i (bag (rw_ByteZ (md_ByteZ k z)))) := by
 have hil : i < rs.length := (List.getElem?_eq_some_iff.1 hi).1
 have h1 := one_of_bag h i hi
 refine (Law.markByteS h1 i (a := z.a) (c := z.c) (l := z.xs) (List.getElem?_set_self hil) k hf (by omega) (by unfold ct_ByteZ at hk1; omega)).mono ?_
 rintro e w' ⟨he, hs⟩
 refine ⟨he, ?_⟩
 have h2 := bag_of_one (r := ⟨5, 1, z.a, z.c, (marks .u8 k z.xs.length).length, ints .u8 (marks .u8 k z.xs.length)⟩) hs i (List.getElem?_set_self (by rw [List.length_set]; exact hil))
 rw [List.set_set, List.set_set] at h2
 exact h2
structure Y_IntZ where
 a : Option Addr
 c : Nat
 xs : List Int
theorem byt_ByteZ {z : Y_ByteZ} (h : Wide_ByteZ z) : L2.Byt z.xs := fun x hx => Law.wf_u8 (h.2 x hx)
end Go.Proofs.Ythiidcflpgbogaa.V

namespace Go.Proofs.Ythiidcflpgbogaa.L9
open V L6
open L2 Ex
open L4 (K isK cmpK)
open L5 (F isR isN Small)
open Go.ChangeShapes Go.WideShapes Go.ChangeAt Go.RowKit Mem Sl Sv Bag

theorem wsum_le {α : Type} {f : α → Nat} {M : Nat} : ∀ {l : List α}, (∀ x ∈ l, f x ≤ M) → wsum f l ≤ l.length * (M + 1)
 | [], _ => by unfold wsum fsum; simp
 | x :: l, h => by
  have h1 := wsum_le (l := l) fun y hy => h y (List.mem_cons_of_mem _ hy)
  have h2 := h x (List.mem_cons_self ..)
  have h3 : wsum f (x :: l) = f x + 1 + wsum f l := by unfold wsum; rw [List.length_cons, fsum_cons]; omega
  rw [h3, List.length_cons, Nat.add_mul]
  omega
theorem wt_rec {l : List F} (h : isR l = true) : wt_Record l ≤ 54 := by
 obtain ⟨h1, _⟩ := isR_small h
 have h2 : wt_Record l ≤ l.length * (8 + 1) := wsum_le fun f hf => by
  have h3 := L5.isR_names h f hf
  unfold isN at h3
  simp only [Bool.and_eq_true, decide_eq_true_eq] at h3
  have h4 : f.t.length = f.name.size := by unfold L5.F.t; rw [Array.length_toList]; rfl
  have h5 := h3.2.2
  show f.name.size ≤ 8
  omega
 omega
theorem wt_op {o : X_Op} (h : isO o = true) (hk : o.f_Key.text.size ≤ 12) : wt_Op o ≤ 100 := by
 obtain ⟨_, h1, _, _, h2, h3⟩ := isO_parts h
 rw [L3.strB_length] at h1 h2
 have h4 := wt_rec h3
 have h5 : wt_Op o = o.f_Store.size + (o.f_Key.text.size + (wt_Record o.f_Record + o.f_Field.size)) := rfl
 omega
theorem norm_text (o : X_Op) : (norm o).f_Key.text.size ≤ 12 := by
 unfold norm
 split
 ·
  exact isK_text (by assumption)
 ·
  exact Nat.zero_le _
theorem room_S {l : List X_Op} (h : okL l = true) : ∀ o ∈ l, Room limS o := fun o ho => by
 obtain ⟨_, h1, h2, h3, h4, _⟩ := isO_parts ((okL_parts h).2 o ho)
 exact ⟨by show _ ≤ (100 : Int); omega, by show _ ≤ (100 : Int); omega, by show _ ≤ (200 : Int); omega, by show _ ≤ (100 : Int); omega⟩
theorem dcL_wt {b : List Int} (hb : Byt b) : wt_OpZ (dcL limS b) ≤ 2000 := by
 cases h : dcO limS b with
 | none => rw [(dc_no h).1]; exact Nat.zero_le _
 | some l =>
  rw [(dc_yes h).1]
  obtain ⟨e, ho⟩ := dc_out h
  have h1 := dc_enc (m := limS) ho (room_S ho)
  rw [e, h] at h1
  injection h1 with h1
  obtain ⟨h6, hv⟩ := okL_parts ho
  have h2 : wt_OpZ l ≤ l.length * (100 + 1) := wsum_le fun o hx => by
   have hx2 := hv o hx
   refine wt_op hx2 ?_
   rw [h1] at hx
   obtain ⟨o2, _, rfl⟩ := List.mem_map.1 hx
   exact norm_text o2
  omega
end Go.Proofs.Ythiidcflpgbogaa.L9

namespace Go.Proofs.Ythiidcflpgbogaa.L9
open L2 Ex
open L4 (K isK encU toU toI)
open L5 (F isR isN encR decL)
open Go.ChangeShapes Go.WideShapes Go.ChangeAt Go.RowKit Mem Sl

def conv (g : Nat) (l : List Int) : Res where
 fp := [g]
 is w := Reads w (g + 1) (some ⟨g, 0, none⟩) (ints .u8 l)
 loc := fun {w w'} hs h j hj => by
  obtain ⟨ad, e, hb, hc⟩ := h j hj
  injection e with e
  subst e
  refine ⟨_, rfl, hb, ?_⟩
  have hg := hs g (List.mem_singleton_self g)
  have hbl : ((⟨g, 0, none⟩ : Addr).add j).block = g := by unfold Addr.add; split <;> rfl
  rw [← hc]
  unfold World.cell?
  rw [hbl, hg]
section
variable {W w w' : World} {rs : List Res}
theorem push_conv (h : Sep W w rs) (s : ByteArray) : Sep W (Lib.bytesWorld w 5 s) (rs ++ [conv w.heap.size (L3.strB s)]) := by
 have hsz : (Lib.bytesWorld w 5 s).heap.size = w.heap.size + 1 := by rw [Lib.bytesWorld_size]
 refine h.push (L3.strB_below w _ s) ?_ (fun b hb => ?_)
 ·
  have hr := L3.strB_reads w 5 s
  rw [hsz] at hr
  exact hr
 ·
  have hb' : b ∈ [w.heap.size] := hb
  rw [List.mem_singleton] at hb'
  omega
theorem conv_rd (h : Sep W w rs) (i : Nat) {g : Nat} {l : List Int} (hi : rs[i]? = some (conv g l)) : Reads w w.heap.size (some ⟨g, 0, none⟩) (ints .u8 l) := by
 have h1 : Reads w (g + 1) (some ⟨g, 0, none⟩) (ints .u8 l) := h.is i _ hi
 have h2 := (h.lies i _ hi g (List.mem_singleton_self g)).2
 exact h1.more (by omega)
end
theorem impl_bytes {W w : World} {rs : List Res} (h : Sep W w rs) (i : Nat) {a a2 : Option Addr} {c c2 n1 n2 : Nat} {l m : List Int} (X : List Int) (hi : rs[i]? = some (own 5 .u8 a c l)) (hr : Reads w w.heap.size a2 (ints .u8 m)) (hn1 : n1 = l.length) (hn2 : n2 = m.length) (hl : l.length ≤ 1000000000) (hm : m.length ≤ 1000000000) (hX : l ++ bsB m = X) :
  Calls Try.prog 83 #[.slice a n1 c, .slice a2 n2 c2] w fun e w' => ∃ a' c', e = .returned (.slice a' X.length c') ∧ Own w' w.heap.size 5 .u8 a' c' X ∧ Below w.heap.size w w' := by
 subst hn1 hn2
 have e : l ++ enc m.length ++ m = X := by rw [← hX]; unfold bsB; rw [List.append_assoc]
 have h1 := L2.implAppendBytes_any a a2 c c2 l m w (h.own i hi).reads hr (h.own i hi).cap hl hm
 rw [e] at h1
 exact h1
theorem spec_bytes {W w : World} {rs : List Res} (h : Sep W w rs) (i : Nat) {a a2 : Option Addr} {c c2 n1 n2 : Nat} {l m : List Int} (X : List Int) (hi : rs[i]? = some (own 5 .u8 a c l)) (hr : Reads w w.heap.size a2 (ints .u8 m)) (hn1 : n1 = l.length) (hn2 : n2 = m.length) (hl : l.length ≤ 1000000000) (hm : m.length ≤ 1000000000) (hX : l ++ bsB m = X) :
  Calls Try.prog 55 #[.slice a n1 c, .slice a2 n2 c2] w fun e w' => ∃ a' c', e = .returned (.slice a' X.length c') ∧ Own w' w.heap.size 5 .u8 a' c' X ∧ Below w.heap.size w w' := by
 subst hn1 hn2
 have e : l ++ enc m.length ++ m = X := by rw [← hX]; unfold bsB; rw [List.append_assoc]
 have h1 := L2.specAppendBytes_any a a2 c c2 l m w (h.own i hi).reads hr (h.own i hi).cap hl hm
 rw [e] at h1
 exact h1
theorem impl_num {W w : World} {rs : List Res} (h : Sep W w rs) {a : Option Addr} {c n1 : Nat} {l : List Int} (n : Int) (X : List Int) (hr : Reads w w.heap.size a (ints .u8 l)) (hc : l.length ≤ c) (hn1 : n1 = l.length) (hl : l.length ≤ 1000000000) (hX : l ++ enc n = X) :
  Calls Try.prog 58 #[.slice a n1 c, .int .i64 n] w fun e w' => ∃ a' c', e = .returned (.slice a' X.length c') ∧ Own w' w.heap.size 5 .u8 a' c' X ∧ Below w.heap.size w w' := by
 subst hn1
 have h1 := L2.implAppendUvarint_any a c l n w hr hc (by omega)
 rw [hX] at h1
 exact h1
theorem spec_num {W w : World} {rs : List Res} (h : Sep W w rs) {a : Option Addr} {c n1 : Nat} {l : List Int} (n : Int) (X : List Int) (hr : Reads w w.heap.size a (ints .u8 l)) (hc : l.length ≤ c) (hn1 : n1 = l.length) (hl : l.length ≤ 1000000000) (hX : l ++ enc n = X) :
  Calls Try.prog 54 #[.slice a n1 c, .int .i64 n] w fun e w' => ∃ a' c', e = .returned (.slice a' X.length c') ∧ Own w' w.heap.size 5 .u8 a' c' X ∧ Below w.heap.size w w' := by
 subst hn1
 have h1 := L2.specAppendUvarint_any a c l n w hr (by omega)
 rw [hX] at h1
 exact h1
end Go.Proofs.Ythiidcflpgbogaa.L9

namespace Go.Proofs.Ythiidcflpgbogaa.L9
open V L6
open L4 (K isK cmpK)
open L5 (F isR isN string_geq)
open Go.Op (bytesLess)
open Go.ChangeShapes Go.WideShapes Go.ChangeAt Go.RowKit Mem Sl Ex L2 Sv Bag

set_option maxHeartbeats 8000000 in
theorem specIsOp_any (o : Y_Op) (hf : FitO (co_Op o)) (w : World) (hr : RowsRd w w.heap.size (rw_Op o)) :
  Calls Try.prog 10 #[vv_Op o] w fun e w' => e = .returned (.bool (isO (co_Op o))) ∧ Below w.heap.size w w' := by
 have HRR := Lib.hid (fun w' (h : Below w.heap.size w w') => (((rdO hr).below h).more h.size : Reads w' w'.heap.size o.f_Record.a (L5.cellsF o.f_Record.l)))
 have HFO := Lib.hid (show FitO ⟨o.f_Kind, o.f_Store, o.f_Key, o.f_Record.l, o.f_Field⟩ from hf)
 clear hf hr
 obtain ⟨kd, st, ⟨kk, kn, kt⟩, ⟨ra, rc, rl⟩, fd⟩ := o
 try unfold vv_Op
 dsimp only at HRR HFO ⊢
 obtain ⟨bn, hbn⟩ : ∃ b, isN st.data.toList = b := ⟨_, rfl⟩
 obtain ⟨bk, hbk⟩ : ∃ b, isK (⟨kk, kn, kt⟩ : K) = b := ⟨_, rfl⟩
 obtain ⟨br, hbr⟩ : ∃ b, isR rl = b := ⟨_, rfl⟩
 obtain ⟨bf, hbf⟩ : ∃ b, isN fd.data.toList = b := ⟨_, rfl⟩
 obtain ⟨c0, hc0⟩ : ∃ b, (fd.toList == []) = b := ⟨_, rfl⟩
 have HNA := fun w => L5.specIsName_any st HFO.out.store w
 rw [hbn] at HNA
 replace HNA := Lib.hid HNA
 have HNF := fun w => L5.specIsName_any fd HFO.out.field w
 rw [hbf] at HNF
 replace HNF := Lib.hid HNF
 have HKY := fun w => L4.specIsKey_any (⟨kk, kn, kt⟩ : K) (by have h : kt.size ≤ 1099511627776 := HFO.out.text; show kt.size ≤ _; omega) w
 rw [hbk] at HKY
 unfold L4.K.v at HKY
 dsimp only at HKY
 replace HKY := Lib.hid HKY
 have HRC := fun w' (h : Below w.heap.size w w') => L5.specIsRecord_any ra rc rl (by have h : rl.length ≤ 1048576 := HFO.out.len; omega) HFO.out.small w' (HRR.out w' h)
 rw [hbr] at HRC
 replace HRC := Lib.hid HRC
 have HB : isO (co_Op ⟨kd, st, ⟨kk, kn, kt⟩, ⟨ra, rc, rl⟩, fd⟩) = (L1.inB kd 1 6 && (bn && ((kd == 5 || bk) && (br && (if kd = 6 then bf else c0))))) := by rw [← hbn, ← hbk, ← hbr, ← hbf, ← hc0]; rfl
 clear hbn hbk hbr hbf
 rw [HB]
 clear HB
 obtain ⟨bi, hbi⟩ : ∃ b, L1.inB kd 1 6 = b := ⟨_, rfl⟩
 have HIA := fun w => L1.l1In_any kd 1 6 w
 rw [hbi] at HIA ⊢
 replace HIA := Lib.hid HIA
 clear hbi
 generalize hB : (bi && _) = B
 have HB := Lib.hid hB.symm
 clear hB
 have S1 := Lib.hid (show Sl.Sep w _ [_] from L4.push_box (Sl.Sep.start w) 36 #[.int .i64 kd, .string st, .int .i64 kk, .int .i64 kn, .string kt, .slice ra rl.length rc, .string fd] (w.heap.size) (by simp))
 obtain ⟨wa, hwa⟩ : ∃ w_, w_ = (w.alloc (.cells #[.int .i64 kd, .string st, .int .i64 kk, .int .i64 kn, .string kt, .slice ra rl.length rc, .string fd] 36)) := ⟨_, rfl⟩
 rw [← hwa] at S1
 go_enter Try.func10, Try.ntmps10
 go_upto_region 1 with fail
 rw [← hwa]
 clear hwa
 obtain ⟨f0, f1, f2, f3, f4, f5, f6⟩ := Bag.cs7 S1.out 0 rfl
 cases bi with
 | false =>
  go_wp2_with fail
  go_at_call 38
  refine (HIA.out _).mono ?_
  rintro e w1 ⟨rfl, rfl⟩
  go_wp2_with fail
  go_ret
  exact ⟨by rw [HB.out]; simp [*], S1.out.old⟩
 | true =>
  go_wp2_with fail
  go_at_call 38
  refine (HIA.out _).mono ?_
  rintro e w1 ⟨rfl, rfl⟩
  cases bn with
  | false =>
   go_wp2_with fail
   go_at_call 39
   refine (HNA.out _).mono ?_
   rintro e w2 ⟨rfl, rfl⟩
   go_wp2_with fail
   go_ret
   exact ⟨by rw [HB.out]; simp [*], S1.out.old⟩
  | true =>
   go_wp2_with fail
   go_at_call 39
   refine (HNA.out _).mono ?_
   rintro e w2 ⟨rfl, rfl⟩
   by_cases h5 : kd = 5
   ·
    have h5' : (kd == 5) = true := by simp [h5]
    cases br with
    | false =>
     go_wp2_with fail
     go_at_call 41
     refine (HRC.out _ S1.out.old).mono ?_
     rintro e w3 ⟨rfl, hb⟩
     clear f0 f1 f2 f3 f4 f5 f6
     have S2 := Lib.hid (S1.out.keep hb)
     clear S1
     clear hb
     obtain ⟨f0, f1, f2, f3, f4, f5, f6⟩ := Bag.cs7 S2.out 0 rfl
     go_wp2_with fail
     go_ret
     exact ⟨by rw [HB.out]; simp [*], S2.out.old⟩
    | true =>
     go_wp2_with fail
     go_at_call 41
     refine (HRC.out _ S1.out.old).mono ?_
     rintro e w3 ⟨rfl, hb⟩
     clear f0 f1 f2 f3 f4 f5 f6
     have S2 := Lib.hid (S1.out.keep hb)
     clear S1
     clear hb
     obtain ⟨f0, f1, f2, f3, f4, f5, f6⟩ := Bag.cs7 S2.out 0 rfl
     by_cases h6 : kd = 6
     ·
      exact absurd h6 (by omega)
     ·
      have h6' : (kd == 6) = false := by simp [h6]
      go_wp2_with fail
      go_ret
      exact ⟨by rw [HB.out]; simp [*], S2.out.old⟩
   ·
    have h5' : (kd == 5) = false := by simp [h5]
    cases bk with
    | false =>
     go_wp2_with fail
     go_at_call 40
     refine (HKY.out _).mono ?_
     rintro e w3 ⟨rfl, hb⟩
     clear f0 f1 f2 f3 f4 f5 f6
     have S2 := Lib.hid (S1.out.keep hb)
     clear S1
     clear hb
     obtain ⟨f0, f1, f2, f3, f4, f5, f6⟩ := Bag.cs7 S2.out 0 rfl
     go_wp2_with fail
     go_ret
     exact ⟨by rw [HB.out]; simp [*], S2.out.old⟩
    | true =>
     go_wp2_with fail
     go_at_call 40
     refine (HKY.out _).mono ?_
     rintro e w3 ⟨rfl, hb⟩
     clear f0 f1 f2 f3 f4 f5 f6
     have S2 := Lib.hid (S1.out.keep hb)
     clear S1
     clear hb
     obtain ⟨f0, f1, f2, f3, f4, f5, f6⟩ := Bag.cs7 S2.out 0 rfl
     cases br with
     | false =>
      go_wp2_with fail
      go_at_call 41
      refine (HRC.out _ S2.out.old).mono ?_
      rintro e w4 ⟨rfl, hb⟩
      clear f0 f1 f2 f3 f4 f5 f6
      have S3 := Lib.hid (S2.out.keep hb)
      clear S2
      clear hb
      obtain ⟨f0, f1, f2, f3, f4, f5, f6⟩ := Bag.cs7 S3.out 0 rfl
      go_wp2_with fail
      go_ret
      exact ⟨by rw [HB.out]; simp [*], S3.out.old⟩
     | true =>
      go_wp2_with fail
      go_at_call 41
      refine (HRC.out _ S2.out.old).mono ?_
      rintro e w4 ⟨rfl, hb⟩
      clear f0 f1 f2 f3 f4 f5 f6
      have S3 := Lib.hid (S2.out.keep hb)
      clear S2
      clear hb
      obtain ⟨f0, f1, f2, f3, f4, f5, f6⟩ := Bag.cs7 S3.out 0 rfl
      by_cases h6 : kd = 6
      ·
       have h6' : (kd == 6) = true := by simp [h6]
       cases bf with
       | false =>
        go_wp2_with fail
        go_at_call 39
        refine (HNF.out _).mono ?_
        rintro e w5 ⟨rfl, rfl⟩
        go_wp2_with fail
        go_ret
        exact ⟨by rw [HB.out]; simp [*], S3.out.old⟩
       | true =>
        go_wp2_with fail
        go_at_call 39
        refine (HNF.out _).mono ?_
        rintro e w5 ⟨rfl, rfl⟩
        go_wp2_with fail
        go_ret
        exact ⟨by rw [HB.out]; simp [*], S3.out.old⟩
      ·
       have h6' : (kd == 6) = false := by simp [h6]
       go_wp2_with fail
       go_ret
       exact ⟨by rw [HB.out]; simp [*], S3.out.old⟩
end Go.Proofs.Ythiidcflpgbogaa.L9

set_option linter.unusedSimpArgs false
namespace Go.Proofs.Ythiidcflpgbogaa.L9
open V L6
open L4 (K isK cmpK)
open L5 (F isR isN string_geq)
open Go.Op (bytesLess)
open Go.ChangeShapes Go.WideShapes Go.ChangeAt Go.RowKit Mem Sl Ex L2 Sv Bag
open L2 Ex
open L4 (encU toI toU)
open L5 (encR)

set_option maxHeartbeats 8000000 in
theorem specEncodeOps_any (a : Option Addr) (c : Nat) (os : List Y_Op) (hl : os.length ≤ 1048576) (hf : ∀ o ∈ coS_Op os, FitO o) (w : World) (hr : Reads w w.heap.size a (os.flatMap cl_Op)) (hx : RowsRd w w.heap.size (rws_Op os)) :
  Calls Try.prog 25 #[.slice a os.length c] w (Gave w w.heap.size 5 .u8 (encL (coS_Op os))) := by
 have HR := Lib.hid (fun w' (h : Below w.heap.size w w') => hr.below h)
 have HX := Lib.hid (fun w' (h : Below w.heap.size w w') => (hx.below h).more h.size)
 have HF := Lib.hid hf
 obtain ⟨N, hN⟩ : ∃ n, n = os.length := ⟨_, rfl⟩
 rw [← hN] at hl ⊢
 have hl' : (N : Int) ≤ 1048576 := by omega
 have HN := Lib.hid hN
 clear hN hr hx hf
 have HSL := Lib.hid (show (coS_Op os).length = N from by rw [coS_len, HN.out])
 obtain ⟨R, hR0⟩ : ∃ x, encL (coS_Op os) = x := ⟨_, rfl⟩
 rw [hR0]
 have HR0 := Lib.hid hR0
 clear hR0
 obtain ⟨X0, hX0⟩ : ∃ x, enc (N : Int) = x := ⟨_, rfl⟩
 have HX0 := Lib.hid hX0
 clear hX0
 have S1 := Lib.hid (show Sl.Sep w w [] from Sl.Sep.start w)
 have hz0 : ([] : List Int).length ≤ 1000000000 := by decide
 go_enter Try.func25, Try.ntmps25
 go_wp2_with fail
 have S2 := Lib.hid (show Sl.Sep w _ [Sl.own 5 .u8 (some ⟨w.heap.size, 0, none⟩) 0 ([])] from Sl.Sep.pushOwn S1.out ((Below.refl _ _).alloc (Nat.le_refl _) _) (Own.empty w 5 .u8 (Nat.le_refl _)))
 clear S1
 go_at_call 54
 refine (spec_num S2.out ((N : Int)) X0 ((Sl.Sep.own S2.out 0 rfl).reads) ((Sl.Sep.own S2.out 0 rfl).cap) rfl (hz0) (by rw [List.nil_append]; exact HX0.out)).mono ?_
 rintro e w1 ⟨b0a, b0c, rfl, ho, hb⟩
 have S3 := Lib.hid (show Sl.Sep w _ [_, Sl.own 5 .u8 b0a b0c X0] from Sl.Sep.pushOwn S2.out hb ho)
 clear S2
 clear hb ho
 have S4 := Lib.hid (show Sl.Sep w _ [_] from Bag.take S3.out [1] (by rfl) (by decide))
 clear S3
 go_wp2_with fail
 go_loopw [3, 4] (fun s i wr => ∃ (k : Nat) (A : Option Addr) (C : Nat) (X : List Int), k ≤ N ∧ i = .int .i64 k ∧ s = .slice A X.length C ∧ Hid ((X = X0 ++ encOs ((coS_Op os).take k) ∧ ∀ j (hj : j < (coS_Op os).length), j < k → isO (coS_Op os)[j] = true) ∧ Sl.Sep w wr [Sl.own 5 .u8 A C X])) (fun _ i _ => N - (intOf i).toNat)
 case atStart => exact ⟨0, _, _, X0, Nat.zero_le _, rfl, rfl, And.intro ⟨by simp [encOs], fun j hj h => absurd h (by omega)⟩ S4.out⟩
 case round =>
  obtain ⟨k, A, C, X, hk, rfl, rfl, hrel⟩ := hrel
  have HI := Lib.hid hrel.out.1
  have S9 := Lib.hid hrel.out.2
  clear hrel S4
  by_cases hlt : (k : Int) < (N : Int)
  ·
   skip
   have hkl : k < os.length := by have := HN.out; omega
   obtain ⟨x, hx⟩ : ∃ x, os[k]? = some x := ⟨_, List.getElem?_eq_getElem hkl⟩
   obtain ⟨oad, e'⟩ := el_some cl_Op_len (by decide) (HR.out _ S9.out.old) hkl
   subst e'
   have hro := fun w' (h : Below w.heap.size w w') => rdOs (HX.out w' h) hx
   have hrr := fun w' (h : Below w.heap.size w w') => rdO (rdOs (HX.out w' h) hx)
   obtain ⟨kd, st, ⟨kk, kn, kt⟩, ⟨ra, rc, rl⟩, fd⟩ := x
   have HK := Lib.hid (fun w' (h : Below w.heap.size w w') => el7 cl_Op_len (HR.out _ h) hx rfl)
   dsimp only at HK hrr
   have HRO := Lib.hid hro
   have HRR := Lib.hid hrr
   have HC := Lib.hid (show (coS_Op os)[k]? = some (⟨kd, st, ⟨kk, kn, kt⟩, rl, fd⟩ : X_Op) from coS_at hx)
   have HFO := Lib.hid (HF.out _ (List.mem_of_getElem? HC.out))
   clear hx hrr hro
   obtain ⟨bo, hbo⟩ : ∃ b, isO (⟨kd, st, ⟨kk, kn, kt⟩, rl, fd⟩ : X_Op) = b := ⟨_, rfl⟩
   have HIO := fun w' (h : Below w.heap.size w w') => (specIsOp_any ⟨kd, st, ⟨kk, kn, kt⟩, ⟨ra, rc, rl⟩, fd⟩ HFO.out w' (HRO.out w' h)).mono (R' := fun e w2 => e = .returned (.bool bo) ∧ Below w'.heap.size w' w2) (fun e w2 hh => ⟨by rw [← hbo]; exact hh.1, hh.2⟩)
   unfold vv_Op at HIO
   dsimp only at HIO
   replace HIO := Lib.hid HIO
   have HBO := Lib.hid hbo
   clear hbo
   obtain ⟨f0, f1, f2, f3, f4, f5, f6⟩ := HK.out _ S9.out.old
   go_wp2_with fail
   go_at_call 10
   refine (HIO.out _ S9.out.old).mono ?_
   rintro e w2 ⟨rfl, hb⟩
   clear f0 f1 f2 f3 f4 f5 f6
   have S10 := Lib.hid (S9.out.keep hb)
   clear S9
   clear hb
   obtain ⟨f0, f1, f2, f3, f4, f5, f6⟩ := HK.out _ S10.out.old
   cases bo with
   | false =>
    go_wp2_with fail
    go_ret
    rw [show R = [] from by rw [← HR0.out]; exact okL_no HC.out HBO.out]
    exact Gave.mk rfl (Own.empty _ 5 .u8 S10.out.old.size) (below_alloc S10.out.old _ (Nat.le_refl _))
   | true =>
    have HV := Lib.hid (show isO (⟨kd, st, ⟨kk, kn, kt⟩, rl, fd⟩ : X_Op) = true from HBO.out)
    have HXB := Lib.hid (show X.length ≤ 300000000 from by
     rw [HI.out.1, List.length_append, ← HX0.out]
     have h1 := enc_len (N : Int)
     have h2 := encOs_len (l := (coS_Op os).take k) (fun o ho => by obtain ⟨j, hj, e⟩ := List.getElem_of_mem ho; rw [List.length_take] at hj; rw [← e, List.getElem_take]; exact HI.out.2 j (by omega) (by omega))
     have h3 : ((coS_Op os).take k).length ≤ k := by rw [List.length_take]; exact Nat.min_le_left _ _
     omega)
    have HEK := fun w => L4.specEncodeKey_any (⟨kk, kn, kt⟩ : K) (by have h : kt.size ≤ 1099511627776 := HFO.out.text; show kt.size ≤ _; omega) w
    skip
    unfold L4.K.v at HEK
    dsimp only at HEK
    have HER := fun w' (h : Below w.heap.size w w') => L5.specEncodeRecord_any ra rc rl (by have h : rl.length ≤ 1048576 := HFO.out.len; omega) HFO.out.small w' (HRR.out w' h)
    have hxb := HXB.out
    have hpt := isO_parts HV.out
    have HPS := Lib.hid (show (L3.strB st).length ≤ 8 from hpt.store)
    have HPF := Lib.hid (show (L3.strB fd).length ≤ 8 from hpt.field)
    have hpk : (toI (encU (⟨kk, kn, kt⟩ : K))).length ≤ 50 := hpt.key
    have hpr : (encR rl).length ≤ 160 := hpt.record
    obtain ⟨KB, hKB⟩ : ∃ x, toI (encU (⟨kk, kn, kt⟩ : K)) = x := ⟨_, rfl⟩
    obtain ⟨RB, hRB⟩ : ∃ x, encR rl = x := ⟨_, rfl⟩
    rw [hKB] at hpk
    rw [hRB] at hpr
    have HPK := Lib.hid hpk
    have HPR := Lib.hid hpr
    clear hpt hpk hpr
    obtain ⟨X1, hX1⟩ : ∃ x, X ++ enc kd = x := ⟨_, rfl⟩
    have hl1 : X1.length ≤ 300000300 := by rw [← hX1, List.length_append]; have h1 := enc_len kd; omega
    obtain ⟨X2, hX2⟩ : ∃ x, X1 ++ bsB (L3.strB st) = x := ⟨_, rfl⟩
    have hl2 : X2.length ≤ 300000600 := by rw [← hX2, List.length_append]; have h1 := bsB_len (L3.strB st); have h2 := HPS.out; omega
    obtain ⟨X3, hX3⟩ : ∃ x, X2 ++ bsB KB = x := ⟨_, rfl⟩
    have hl3 : X3.length ≤ 300000900 := by rw [← hX3, List.length_append]; have h1 := bsB_len (KB); have h2 := HPK.out; omega
    obtain ⟨X4, hX4⟩ : ∃ x, X3 ++ bsB RB = x := ⟨_, rfl⟩
    have hl4 : X4.length ≤ 300001200 := by rw [← hX4, List.length_append]; have h1 := bsB_len (RB); have h2 := HPR.out; omega
    obtain ⟨X5, hX5⟩ : ∃ x, X4 ++ bsB (L3.strB fd) = x := ⟨_, rfl⟩
    have hl5 : X5.length ≤ 300001500 := by rw [← hX5, List.length_append]; have h1 := bsB_len (L3.strB fd); have h2 := HPF.out; omega
    have HNX := Lib.hid (show X ++ encO (⟨kd, st, ⟨kk, kn, kt⟩, rl, fd⟩ : X_Op) = X5 from by rw [← hX5, ← hX4, ← hX3, ← hX2, ← hX1, ← hKB, ← hRB]; unfold encO; simp only [List.append_assoc])
    have HXX := Lib.hid (And.intro hX1 (And.intro hX2 (And.intro hX3 (And.intro hX4 hX5))))
    clear hX1 hX2 hX3 hX4 hX5
    have HLL := Lib.hid (And.intro hl1 (And.intro hl2 (And.intro hl3 (And.intro hl4 hl5))))
    clear hl1 hl2 hl3 hl4 hl5
    rw [hKB] at HEK
    rw [hRB] at HER
    replace HEK := Lib.hid HEK
    replace HER := Lib.hid HER
    clear hKB hRB
    clear hxb
    go_upto_region 7 with fail
    go_cut [3] (fun z wx => ∃ (A2 : Option Addr) (C2 : Nat), z = .slice A2 X2.length C2 ∧ Hid (Sl.Sep w wx [Sl.own 5 .u8 A2 C2 X2]))
    case first =>
     clear f0 f1 f2 f3 f4 f5 f6
     obtain ⟨f0, f1, f2, f3, f4, f5, f6⟩ := HK.out _ S10.out.old
     clear f0 f1 f2 f3 f4 f5 f6
     refine wp_region_held_drew (S := (fun w' => (w'.cell? (oad.add (k * 7)) = some (.int .i64 kd) ∧ w'.cell? (⟨(oad.add (k * 7)).block, (oad.add (k * 7)).off + 1, none⟩) = some (.string st) ∧ w'.cell? (⟨(oad.add (k * 7)).block, (oad.add (k * 7)).off + 2, none⟩) = some (.int .i64 kk) ∧ w'.cell? (⟨(oad.add (k * 7)).block, (oad.add (k * 7)).off + 3, none⟩) = some (.int .i64 kn) ∧ w'.cell? (⟨(oad.add (k * 7)).block, (oad.add (k * 7)).off + 4, none⟩) = some (.string kt) ∧ w'.cell? (⟨(oad.add (k * 7)).block, (oad.add (k * 7)).off + 5, none⟩) = some (.slice ra rl.length rc) ∧ w'.cell? (⟨(oad.add (k * 7)).block, (oad.add (k * 7)).off + 6, none⟩) = some (.string fd)))) (by kernel_rfl) (HK.out _ (Bag.drew1 S10.out).old) (fun hS => ?_)
     have S11 := Lib.hid (Bag.drew1 S10.out)
     clear S10
     generalize World.drew _ = w3 at hS S11 ⊢
     refine tk 0 rfl ?_
     try simp only [zp0, zp1, zp2, zp3, zp4]
     refine tk 1 rfl ?_
     try simp only [zp0, zp1, zp2, zp3, zp4]
     refine tk 2 rfl ?_
     try simp only [zp0, zp1, zp2, zp3, zp4]
     refine tk 3 rfl ?_
     try simp only [zp0, zp1, zp2, zp3, zp4]
     refine tk 4 rfl ?_
     try simp only [zp0, zp1, zp2, zp3, zp4]
     refine tk 5 rfl ?_
     try simp only [zp0, zp1, zp2, zp3, zp4]
     refine tk 7 rfl ?_
     try simp only [zp0, zp1, zp2, zp3, zp4]
     refine tk 8 rfl ?_
     try simp only [zp0, zp1, zp2, zp3, zp4]
     refine tk 9 rfl ?_
     try simp only [zp0, zp1, zp2, zp3, zp4]
     refine tk 10 rfl ?_
     try simp only [zp0, zp1, zp2, zp3, zp4]
     refine tk 11 rfl ?_
     try simp only [zp0, zp1, zp2, zp3, zp4]
     refine wpAnyH_ready (rs := [6, 12]) (by kernel_rfl) (by simp) ?_
     refine Reg.cons_op (i := 6) rfl (fun K hK => ?_) ?_
     ·
      skip
      go_simp
      go_at_call 54
      refine (spec_num S11.out (kd) X1 ((Sl.Sep.own S11.out 0 rfl).reads) ((Sl.Sep.own S11.out 0 rfl).cap) rfl (by have := HXB.out; omega) HXX.out.1).mono ?_
      rintro e w4 ⟨b1a, b1c, rfl, ho, hb⟩
      have S12 := Lib.hid (show Sl.Sep w _ [_, Sl.own 5 .u8 b1a b1c X1] from Sl.Sep.pushOwn S11.out hb ho)
      clear S11
      clear hb ho
      go_wp2_with fail
      refine hK.out _ _ (HK.out _ S12.out.old) (fun hS => ?_)
      clear hK K
      try simp only [zp0, zp1, zp2, zp3, zp4]
      refine Reg.one_op (i := 12) rfl (by kernel_rfl) (fun K hK => ?_)
      have hcv := Lib.run_convert_string_bytes (P := Try.prog) w4 9 51 5 st Try.underlying9 Try.underlying51 Try.underlying5
      go_simp
      have S13 := Lib.hid (show Sl.Sep w _ [_, _, conv w4.heap.size (L3.strB st)] from push_conv S12.out st)
      clear S12
      clear hcv
      obtain ⟨g1, hg⟩ : ∃ g', g' = w4.heap.size := ⟨_, rfl⟩
      rw [← hg] at S13 ⊢
      clear hg
      generalize Lib.bytesWorld w4 5 st = w5 at S13 ⊢
      refine hK.out _ _ (HK.out _ S13.out.old) (fun hS => ?_)
      clear hK K
      try simp only [zp0, zp1, zp2, zp3, zp4]
      refine Reg.one_op (i := 13) rfl (by kernel_rfl) (fun K hK => ?_)
      go_simp
      go_at_call 55
      refine (spec_bytes S13.out 1 X2 rfl (conv_rd S13.out 2 rfl) rfl ((L3.strB_length st).symm) (by have h := HLL.out.1; omega) (by have := HPS.out; omega) HXX.out.2.1).mono ?_
      rintro e w6 ⟨b2a, b2c, rfl, ho, hb⟩
      have S14 := Lib.hid (show Sl.Sep w _ [_, _, conv g1 (L3.strB st), Sl.own 5 .u8 b2a b2c X2] from Sl.Sep.pushOwn S13.out hb ho)
      clear S13
      clear hb ho
      go_wp2_with fail
      refine hK.out _ _ (HK.out _ S14.out.old) (fun hS => ?_)
      clear hK K
      try simp only [zp0, zp1, zp2, zp3, zp4]
      refine tk 14 rfl ?_
      try simp only [zp0, zp1, zp2, zp3, zp4]
      refine wpAnyH_done (by kernel_rfl) ?_ _
      obtain ⟨f0, f1, f2, f3, f4, f5, f6⟩ := HK.out _ S14.out.old
      clear f0 f1 f2 f3 f4 f5 f6
      have S15 := Lib.hid (show Sl.Sep w _ [_] from Bag.take S14.out [3] (by rfl) (by decide))
      clear S14
      go_wp2_with fail
      go_meet
      case rel => exact ⟨b2a, b2c, rfl, S15.out⟩
     refine Reg.cons_op (i := 12) rfl (fun K hK => ?_) ?_
     ·
      skip
      have hcv := Lib.run_convert_string_bytes (P := Try.prog) w3 9 51 5 st Try.underlying9 Try.underlying51 Try.underlying5
      go_simp
      have S12 := Lib.hid (show Sl.Sep w _ [_, conv w3.heap.size (L3.strB st)] from push_conv S11.out st)
      clear S11
      clear hcv
      obtain ⟨g1, hg⟩ : ∃ g', g' = w3.heap.size := ⟨_, rfl⟩
      rw [← hg] at S12 ⊢
      clear hg
      generalize Lib.bytesWorld w3 5 st = w4 at S12 ⊢
      refine hK.out _ _ (HK.out _ S12.out.old) (fun hS => ?_)
      clear hK K
      try simp only [zp0, zp1, zp2, zp3, zp4]
      refine Reg.one_op (i := 6) rfl (by kernel_rfl) (fun K hK => ?_)
      go_simp
      go_at_call 54
      refine (spec_num S12.out (kd) X1 ((Sl.Sep.own S12.out 0 rfl).reads) ((Sl.Sep.own S12.out 0 rfl).cap) rfl (by have := HXB.out; omega) HXX.out.1).mono ?_
      rintro e w5 ⟨b1a, b1c, rfl, ho, hb⟩
      have S13 := Lib.hid (show Sl.Sep w _ [_, conv g1 (L3.strB st), Sl.own 5 .u8 b1a b1c X1] from Sl.Sep.pushOwn S12.out hb ho)
      clear S12
      clear hb ho
      go_wp2_with fail
      refine hK.out _ _ (HK.out _ S13.out.old) (fun hS => ?_)
      clear hK K
      try simp only [zp0, zp1, zp2, zp3, zp4]
      refine Reg.one_op (i := 13) rfl (by kernel_rfl) (fun K hK => ?_)
      go_simp
      go_at_call 55
      refine (spec_bytes S13.out 2 X2 rfl (conv_rd S13.out 1 rfl) rfl ((L3.strB_length st).symm) (by have h := HLL.out.1; omega) (by have := HPS.out; omega) HXX.out.2.1).mono ?_
      rintro e w6 ⟨b2a, b2c, rfl, ho, hb⟩
      have S14 := Lib.hid (show Sl.Sep w _ [_, _, _, Sl.own 5 .u8 b2a b2c X2] from Sl.Sep.pushOwn S13.out hb ho)
      clear S13
      clear hb ho
      go_wp2_with fail
      refine hK.out _ _ (HK.out _ S14.out.old) (fun hS => ?_)
      clear hK K
      try simp only [zp0, zp1, zp2, zp3, zp4]
      refine tk 14 rfl ?_
      try simp only [zp0, zp1, zp2, zp3, zp4]
      refine wpAnyH_done (by kernel_rfl) ?_ _
      obtain ⟨f0, f1, f2, f3, f4, f5, f6⟩ := HK.out _ S14.out.old
      clear f0 f1 f2 f3 f4 f5 f6
      have S15 := Lib.hid (show Sl.Sep w _ [_] from Bag.take S14.out [3] (by rfl) (by decide))
      clear S14
      go_wp2_with fail
      go_meet
      case rel => exact ⟨b2a, b2c, rfl, S15.out⟩
     exact AllReadyH.nil
    case rest =>
     obtain ⟨A2, C2, rfl, hq⟩ := hcut
     obtain ⟨ww, hww, hSS⟩ : ∃ u, u = _ ∧ Sl.Sep w u [Sl.own 5 .u8 A2 C2 X2] := ⟨_, rfl, hq.out⟩
     subst hww
     have S60 := Lib.hid hSS
     clear hSS hq S10
     obtain ⟨f0, f1, f2, f3, f4, f5, f6⟩ := HK.out _ S60.out.old
     go_upto_region 8 with fail
     clear f0 f1 f2 f3 f4 f5 f6
     refine wp_region_held_drew (S := (fun w' => (w'.cell? (oad.add (k * 7)) = some (.int .i64 kd) ∧ w'.cell? (⟨(oad.add (k * 7)).block, (oad.add (k * 7)).off + 1, none⟩) = some (.string st) ∧ w'.cell? (⟨(oad.add (k * 7)).block, (oad.add (k * 7)).off + 2, none⟩) = some (.int .i64 kk) ∧ w'.cell? (⟨(oad.add (k * 7)).block, (oad.add (k * 7)).off + 3, none⟩) = some (.int .i64 kn) ∧ w'.cell? (⟨(oad.add (k * 7)).block, (oad.add (k * 7)).off + 4, none⟩) = some (.string kt) ∧ w'.cell? (⟨(oad.add (k * 7)).block, (oad.add (k * 7)).off + 5, none⟩) = some (.slice ra rl.length rc) ∧ w'.cell? (⟨(oad.add (k * 7)).block, (oad.add (k * 7)).off + 6, none⟩) = some (.string fd)))) (by kernel_rfl) (HK.out _ (Bag.drew1 S60.out).old) (fun hS => ?_)
     have S61 := Lib.hid (Bag.drew1 S60.out)
     clear S60
     generalize World.drew _ = w3 at hS S61 ⊢
     refine tk 0 rfl ?_
     try simp only [zp0, zp1, zp2, zp3, zp4]
     refine tk 1 rfl ?_
     try simp only [zp0, zp1, zp2, zp3, zp4]
     refine tk 2 rfl ?_
     try simp only [zp0, zp1, zp2, zp3, zp4]
     refine tk 3 rfl ?_
     try simp only [zp0, zp1, zp2, zp3, zp4]
     refine tk 4 rfl ?_
     try simp only [zp0, zp1, zp2, zp3, zp4]
     refine tk 5 rfl ?_
     try simp only [zp0, zp1, zp2, zp3, zp4]
     refine tk 8 rfl ?_
     try simp only [zp0, zp1, zp2, zp3, zp4]
     refine tk 9 rfl ?_
     try simp only [zp0, zp1, zp2, zp3, zp4]
     refine tk 10 rfl ?_
     try simp only [zp0, zp1, zp2, zp3, zp4]
     refine tk 11 rfl ?_
     try simp only [zp0, zp1, zp2, zp3, zp4]
     refine tk 12 rfl ?_
     try simp only [zp0, zp1, zp2, zp3, zp4]
     refine Reg.one_op (i := 6) rfl (by kernel_rfl) (fun K hK => ?_)
     go_simp
     go_at_call 56
     refine (HEK.out _).mono ?_
     rintro e w4 ⟨ka, kc, rfl, ho, hb⟩
     have S62 := Lib.hid (show Sl.Sep w _ [_, Sl.own 5 .u8 ka kc KB] from Sl.Sep.pushOwn S61.out hb ho)
     clear S61
     clear hb ho
     go_wp2_with fail
     refine hK.out _ _ (HK.out _ S62.out.old) (fun hS => ?_)
     clear hK K
     try simp only [zp0, zp1, zp2, zp3, zp4]
     refine Reg.one_op (i := 7) rfl (by kernel_rfl) (fun K hK => ?_)
     go_simp
     go_at_call 55
     refine (spec_bytes S62.out 0 X3 rfl ((Sl.Sep.own S62.out 1 rfl).reads) rfl (rfl) (by have h := HLL.out.2.1; omega) (by have := HPK.out; omega) HXX.out.2.2.1).mono ?_
     rintro e w5 ⟨b3a, b3c, rfl, ho, hb⟩
     have S63 := Lib.hid (show Sl.Sep w _ [_, _, Sl.own 5 .u8 b3a b3c X3] from Sl.Sep.pushOwn S62.out hb ho)
     clear S62
     clear hb ho
     go_wp2_with fail
     refine hK.out _ _ (HK.out _ S63.out.old) (fun hS => ?_)
     clear hK K
     try simp only [zp0, zp1, zp2, zp3, zp4]
     refine Reg.one_op (i := 13) rfl (by kernel_rfl) (fun K hK => ?_)
     go_simp
     go_at_call 57
     refine (HER.out _ S63.out.old).mono ?_
     rintro e w6 ⟨rea, rec_, rfl, ho, hb⟩
     have S64 := Lib.hid (show Sl.Sep w _ [_, _, _, Sl.own 5 .u8 rea rec_ RB] from Sl.Sep.pushOwn S63.out hb ho)
     clear S63
     clear hb ho
     go_wp2_with fail
     refine hK.out _ _ (HK.out _ S64.out.old) (fun hS => ?_)
     clear hK K
     try simp only [zp0, zp1, zp2, zp3, zp4]
     refine Reg.one_op (i := 14) rfl (by kernel_rfl) (fun K hK => ?_)
     go_simp
     go_at_call 55
     refine (spec_bytes S64.out 2 X4 rfl ((Sl.Sep.own S64.out 3 rfl).reads) rfl (rfl) (by have h := HLL.out.2.2.1; omega) (by have := HPR.out; omega) HXX.out.2.2.2.1).mono ?_
     rintro e w7 ⟨b4a, b4c, rfl, ho, hb⟩
     have S65 := Lib.hid (show Sl.Sep w _ [_, _, _, _, Sl.own 5 .u8 b4a b4c X4] from Sl.Sep.pushOwn S64.out hb ho)
     clear S64
     clear hb ho
     go_wp2_with fail
     refine hK.out _ _ (HK.out _ S65.out.old) (fun hS => ?_)
     clear hK K
     try simp only [zp0, zp1, zp2, zp3, zp4]
     refine tk 15 rfl ?_
     try simp only [zp0, zp1, zp2, zp3, zp4]
     refine wpAnyH_done (by kernel_rfl) ?_ _
     obtain ⟨f0, f1, f2, f3, f4, f5, f6⟩ := HK.out _ S65.out.old
     clear f0 f1 f2 f3 f4 f5 f6
     have S66 := Lib.hid (show Sl.Sep w _ [_] from Bag.take S65.out [4] (by rfl) (by decide))
     clear S65
     obtain ⟨f0, f1, f2, f3, f4, f5, f6⟩ := HK.out _ S66.out.old
     have hcv := Lib.run_convert_string_bytes (P := Try.prog) w7 9 51 5 fd Try.underlying9 Try.underlying51 Try.underlying5
     go_wp2_with fail
     clear f0 f1 f2 f3 f4 f5 f6
     have S67 := Lib.hid (show Sl.Sep w _ [_, conv w7.heap.size (L3.strB fd)] from push_conv S66.out fd)
     clear S66
     clear hcv
     obtain ⟨g1, hg⟩ : ∃ g', g' = w7.heap.size := ⟨_, rfl⟩
     rw [← hg] at S67 ⊢
     clear hg
     generalize Lib.bytesWorld w7 5 fd = w8 at S67 ⊢
     go_at_call 55
     refine (spec_bytes S67.out 0 X5 rfl (conv_rd S67.out 1 rfl) rfl ((L3.strB_length fd).symm) (by have h := HLL.out.2.2.2.1; omega) (by have := HPF.out; omega) HXX.out.2.2.2.2).mono ?_
     rintro e w9 ⟨b5a, b5c, rfl, ho, hb⟩
     have S68 := Lib.hid (show Sl.Sep w _ [_, conv g1 (L3.strB fd), Sl.own 5 .u8 b5a b5c X5] from Sl.Sep.pushOwn S67.out hb ho)
     clear S67
     clear hb ho
     have S69 := Lib.hid (show Sl.Sep w _ [_] from Bag.take S68.out [2] (by rfl) (by decide))
     clear S68
     go_wp2_with fail
     go_roundw
     case rel => exact ⟨k + 1, b5a, b5c, X5, by omega, by go_num, rfl, And.intro ⟨by rw [encOs_take HC.out, ← List.append_assoc, ← HI.out.1]; exact HNX.out.symm, fun j hj h => by
      by_cases e : j < k
      ·
       exact HI.out.2 j hj e
      ·
       obtain rfl : j = k := by omega
       rw [val_of HC.out]; exact HBO.out⟩ S69.out⟩
     case measure => simp [intOf]; omega
  ·
   skip
   obtain rfl : k = N := by omega
   have HE := Lib.hid (show (coS_Op os).take k = coS_Op os from List.take_of_length_le (by rw [HSL.out]; exact Nat.le_refl _))
   by_cases h6 : (6 : Int) < (k : Int)
   ·
    skip
    go_wp2_with fail
    go_ret
    rw [show R = [] from by rw [← HR0.out]; exact okL_many (by rw [HSL.out]; omega)]
    exact Gave.mk rfl (Own.empty _ 5 .u8 S9.out.old.size) (below_alloc S9.out.old _ (Nat.le_refl _))
   ·
    skip
    have HRX := Lib.hid (show R = X from by rw [← HR0.out, HI.out.1, HE.out, ← HX0.out, okL_yes (by rw [HSL.out]; omega) (fun j hj => HI.out.2 j hj (by rw [HSL.out] at hj; omega)), HSL.out])
    go_wp2_with fail
    go_ret
    rw [HRX.out]
    exact Gave.mk rfl (Sl.Sep.ownAt S9.out 0 rfl) S9.out.old
end Go.Proofs.Ythiidcflpgbogaa.L9

namespace Go.Proofs.Ythiidcflpgbogaa.L9
open V L6
open L4 (K isK cmpK)
open L5 (F isR isN string_geq)
open Go.Op (bytesLess)
open Go.ChangeShapes Go.WideShapes Go.ChangeAt Go.RowKit Mem Sl Ex L2 Sv Bag
open L2 Ex
open L4 (encU toI toU decK)
open L5 (encR decL)

set_option maxHeartbeats 8000000 in
theorem l9Read_any (a : Option Addr) (c : Nat) (l : List Int) (hb : Byt l) (hc : l.length ≤ c) (hl : l.length ≤ 1099511627776) (off : Int) (h0 : 0 ≤ off) (h1 : off ≤ l.length) (w : World) (hr : Reads w w.heap.size a (ints .u8 l)) :
  Calls Try.prog 61 #[.slice a l.length c, .int .i64 off] w (GaveO w (roX limS l off) (roE limS l off) (opB_ limS l off)) := by
 have HRD := fun (o : Int) (h0 : 0 ≤ o) (h1 : o ≤ l.length) (w1 : World) (h : Below w.heap.size w w1) => specReadB_any a c l o w1 _ (Nat.le_refl _) ((hr.below h).more h.size) hb hc hl (by omega) (by omega)
 have HRB := fun (o most : Int) (h0 : 0 ≤ o) (h1 : o ≤ l.length) (w1 : World) (h : Below w.heap.size w w1) => specReadBytes_any a c l o most w1 ((hr.below h).more h.size) hb hc hl (by omega) (by omega)
 obtain ⟨kd, hkd⟩ : ∃ x, rdN l off = x := ⟨_, rfl⟩
 obtain ⟨q1, hq1⟩ : ∃ x, rdE l off = x := ⟨_, rfl⟩
 obtain ⟨b0, hb0⟩ : ∃ x, rdB l off = x := ⟨_, rfl⟩
 obtain ⟨J1, hJ1⟩ : ∃ x, rbL l q1 100 = x := ⟨_, rfl⟩
 obtain ⟨q2, hq2⟩ : ∃ x, rbE l q1 100 = x := ⟨_, rfl⟩
 obtain ⟨b1, hb1⟩ : ∃ x, rbB l q1 100 = x := ⟨_, rfl⟩
 obtain ⟨J2, hJ2⟩ : ∃ x, rbL l q2 100 = x := ⟨_, rfl⟩
 obtain ⟨q3, hq3⟩ : ∃ x, rbE l q2 100 = x := ⟨_, rfl⟩
 obtain ⟨b2, hb2⟩ : ∃ x, rbB l q2 100 = x := ⟨_, rfl⟩
 obtain ⟨J3, hJ3⟩ : ∃ x, rbL l q3 200 = x := ⟨_, rfl⟩
 obtain ⟨q4, hq4⟩ : ∃ x, rbE l q3 200 = x := ⟨_, rfl⟩
 obtain ⟨b3, hb3⟩ : ∃ x, rbB l q3 200 = x := ⟨_, rfl⟩
 obtain ⟨J4, hJ4⟩ : ∃ x, rbL l q4 100 = x := ⟨_, rfl⟩
 obtain ⟨q5, hq5⟩ : ∃ x, rbE l q4 100 = x := ⟨_, rfl⟩
 obtain ⟨b4, hb4⟩ : ∃ x, rbB l q4 100 = x := ⟨_, rfl⟩
 obtain ⟨e1, e2, e3⟩ := ro_parts hkd hq1 hb0 hJ1 hq2 hb1 hJ2 hq3 hb2 hJ3 hq4 hb3 hJ4 hq5 hb4
 have HP1 : 0 ≤ q1 ∧ q1 ≤ l.length := by have h := rd_bounds hb off; rw [hq1] at h; exact h.2.2
 have HP2 : 0 ≤ q2 ∧ q2 ≤ l.length := by have h := rb_place hb q1 100; rw [hq2] at h; exact h
 have HP3 : 0 ≤ q3 ∧ q3 ≤ l.length := by have h := rb_place hb q2 100; rw [hq3] at h; exact h
 have HP4 : 0 ≤ q4 ∧ q4 ≤ l.length := by have h := rb_place hb q3 200; rw [hq4] at h; exact h
 have HP5 : 0 ≤ q5 ∧ q5 ≤ l.length := by have h := rb_place hb q4 100; rw [hq5] at h; exact h
 have H0 := fun w1 h => HRD off h0 h1 w1 h
 unfold RdE at H0
 rw [hkd, hq1, hb0] at H0
 replace H0 := Lib.hid H0
 have H1 := fun w1 h => HRB q1 100 HP1.1 HP1.2 w1 h
 unfold GaveT at H1
 rw [hJ1, hq2, hb1] at H1
 replace H1 := Lib.hid H1
 have H2 := fun w1 h => HRB q2 100 HP2.1 HP2.2 w1 h
 unfold GaveT at H2
 rw [hJ2, hq3, hb2] at H2
 replace H2 := Lib.hid H2
 have H3 := fun w1 h => HRB q3 200 HP3.1 HP3.2 w1 h
 unfold GaveT at H3
 rw [hJ3, hq4, hb3] at H3
 replace H3 := Lib.hid H3
 have H4 := fun w1 h => HRB q4 100 HP4.1 HP4.2 w1 h
 unfold GaveT at H4
 rw [hJ4, hq5, hb4] at H4
 replace H4 := Lib.hid H4
 have HZ1 := Lib.hid (show J1.length ≤ 1099511627776 ∧ Byt J1 from ⟨by have h := rb_size l q1 100; rw [hJ1] at h; omega, by rw [← hJ1]; exact rb_byt hb _ _⟩)
 have HZ2 := Lib.hid (show J2.length ≤ 1099511627776 ∧ Byt J2 from ⟨by have h := rb_size l q2 100; rw [hJ2] at h; omega, by rw [← hJ2]; exact rb_byt hb _ _⟩)
 have HZ3 := Lib.hid (show J3.length ≤ 1099511627776 ∧ Byt J3 from ⟨by have h := rb_size l q3 200; rw [hJ3] at h; omega, by rw [← hJ3]; exact rb_byt hb _ _⟩)
 have HZ4 := Lib.hid (show J4.length ≤ 1099511627776 ∧ Byt J4 from ⟨by have h := rb_size l q4 100; rw [hJ4] at h; omega, by rw [← hJ4]; exact rb_byt hb _ _⟩)
 obtain ⟨RX, hRX⟩ : ∃ x, roX limS l off = x := ⟨_, rfl⟩
 obtain ⟨RE, hRE⟩ : ∃ x, roE limS l off = x := ⟨_, rfl⟩
 obtain ⟨RB, hRB⟩ : ∃ x, opB_ limS l off = x := ⟨_, rfl⟩
 rw [hRX, hRE, hRB]
 have HNO := Lib.hid (fun (h : (b0 && (b1 && (b2 && (b3 && b4)))) = false) => show RX = zO ∧ RE = 0 ∧ RB = false from by have hn := ro_no (m := limS) (l := l) (off := off) (e1.trans h); rw [← hRX, ← hRE, ← hRB]; exact ⟨hn.1, hn.2.1, e1.trans h⟩)
 have HYES := Lib.hid (fun (h : (b0 && (b1 && (b2 && (b3 && b4)))) = true) => show RX = ⟨kd, strOfNums J1, decK J2, decL J3, strOfNums J4⟩ ∧ RE = q5 ∧ RB = true from by have hn := ro_yes (m := limS) (l := l) (off := off) (e1.trans h); rw [← hRX, ← hRE, ← hRB, ← strU_nums, ← strU_nums]; exact ⟨hn.1.trans e2, hn.2.1.trans e3, e1.trans h⟩)
 clear HRD HRB hr e1 e2 e3 hRX hRE hRB hkd hq1 hb0 hJ1 hq2 hb1 hJ2 hq3 hb2 hJ3 hq4 hb3 hJ4 hq5 hb4 HP1 HP2 HP3 HP4 HP5
 obtain ⟨L, hL⟩ : ∃ n, n = l.length := ⟨_, rfl⟩
 rw [← hL] at H0 H1 H2 H3 H4 ⊢
 clear hL h1
 have S1 := Lib.hid (show Sl.Sep w _ [_] from L4.push_box (Sl.Sep.start w) 36 #[.int .i64 0, .string ⟨#[]⟩, .int .i64 0, .int .i64 0, .string ⟨#[]⟩, .slice none 0 0, .string ⟨#[]⟩] (w.heap.size) (by simp))
 obtain ⟨wa, hwa⟩ : ∃ w_, w_ = (w.alloc (.cells #[.int .i64 0, .string ⟨#[]⟩, .int .i64 0, .int .i64 0, .string ⟨#[]⟩, .slice none 0 0, .string ⟨#[]⟩] 36)) := ⟨_, rfl⟩
 rw [← hwa] at S1
 go_enter Try.func61, Try.ntmps61
 go_upto_region 1 with fail
 rw [← hwa]
 clear hwa
 obtain ⟨f0, f1, f2, f3, f4, f5, f6⟩ := Bag.cs7 S1.out 0 rfl
 go_wp2_with fail
 go_at_call 60
 refine (H0.out _ S1.out.old).mono ?_
 rintro e w1 ⟨rfl, hb⟩
 clear f0 f1 f2 f3 f4 f5 f6
 have S2 := Lib.hid (S1.out.keep hb)
 clear S1
 clear hb
 obtain ⟨f0, f1, f2, f3, f4, f5, f6⟩ := Bag.cs7 S2.out 0 rfl
 go_wp2_with fail
 go_at_call 84
 refine (H1.out _ S2.out.old).mono ?_
 rintro e w2 ⟨a1, c1, rfl, ho, hb⟩
 clear f0 f1 f2 f3 f4 f5 f6
 have S3 := Lib.hid (show Sl.Sep w _ [L4.boxR w.heap.size 36 #[.int .i64 0, .string ⟨#[]⟩, .int .i64 0, .int .i64 0, .string ⟨#[]⟩, .slice none 0 0, .string ⟨#[]⟩], Sl.own 5 .u8 a1 c1 J1] from Sl.Sep.pushOwn S2.out hb ho)
 clear S2
 clear hb ho
 obtain ⟨f0, f1, f2, f3, f4, f5, f6⟩ := Bag.cs7 S3.out 0 rfl
 go_wp2_with fail
 go_at_call 84
 refine (H2.out _ S3.out.old).mono ?_
 rintro e w3 ⟨a2, c2, rfl, ho, hb⟩
 clear f0 f1 f2 f3 f4 f5 f6
 have S4 := Lib.hid (show Sl.Sep w _ [_, _, Sl.own 5 .u8 a2 c2 J2] from Sl.Sep.pushOwn S3.out hb ho)
 clear S3
 clear hb ho
 obtain ⟨f0, f1, f2, f3, f4, f5, f6⟩ := Bag.cs7 S4.out 0 rfl
 go_wp2_with fail
 go_at_call 84
 refine (H3.out _ S4.out.old).mono ?_
 rintro e w4 ⟨a3, c3, rfl, ho, hb⟩
 clear f0 f1 f2 f3 f4 f5 f6
 have S5 := Lib.hid (show Sl.Sep w _ [_, _, _, Sl.own 5 .u8 a3 c3 J3] from Sl.Sep.pushOwn S4.out hb ho)
 clear S4
 clear hb ho
 obtain ⟨f0, f1, f2, f3, f4, f5, f6⟩ := Bag.cs7 S5.out 0 rfl
 go_wp2_with fail
 go_at_call 84
 refine (H4.out _ S5.out.old).mono ?_
 rintro e w5 ⟨a4, c4, rfl, ho, hb⟩
 clear f0 f1 f2 f3 f4 f5 f6
 have S6 := Lib.hid (show Sl.Sep w _ [_, _, _, _, Sl.own 5 .u8 a4 c4 J4] from Sl.Sep.pushOwn S5.out hb ho)
 clear S5
 clear hb ho
 obtain ⟨f0, f1, f2, f3, f4, f5, f6⟩ := Bag.cs7 S6.out 0 rfl
 cases b0 with
 | false =>
  clear f0 f1 f2 f3 f4 f5 f6
  obtain ⟨f0, f1, f2, f3, f4, f5, f6⟩ := Bag.cs7 S6.out 0 rfl
  obtain ⟨z0, z1, z2, z3, z4, z5, z6⟩ := Bag.fs7 S6.out 0 rfl
  go_wp2_with fail
  clear f0 f1 f2 f3 f4 f5 f6 z0 z1 z2 z3 z4 z5 z6
  have S7 := Lib.hid (show Sl.Sep w _ [_, _, _, _, _] from L5.put_box5 (L5.put_box5 (L5.put_box5 (L5.put_box5 (S6.out) 0 rfl 0 (.int .i64 0)) 0 rfl 1 (.string ⟨#[]⟩)) 0 rfl 2 (.int .i64 0)) 0 rfl 3 (.int .i64 0))
  clear S6
  have S8 := Lib.hid (show Sl.Sep w _ [_, _, _, _, _] from L5.put_box5 (L5.put_box5 (L5.put_box5 (S7.out) 0 rfl 4 (.string ⟨#[]⟩)) 0 rfl 5 (.slice none 0 0)) 0 rfl 6 (.string ⟨#[]⟩))
  clear S7
  obtain ⟨f0, f1, f2, f3, f4, f5, f6⟩ := Bag.cs7 S8.out 0 rfl
  refine bodyPost_ret (v := .tuple #[.agg #[.int .i64 0, .string ⟨#[]⟩, .int .i64 0, .int .i64 0, .string ⟨#[]⟩, .slice none 0 0, .string ⟨#[]⟩], .int .i64 0, .bool false]) (by simp [results, Try.results61, go_sem, *]) rfl ?_
  clear f0 f1 f2 f3 f4 f5 f6
  obtain ⟨e1, e2, e3⟩ := HNO.out (by first | rfl | simp)
  rw [e1, e2, e3]
  exact ⟨⟨0, ⟨#[]⟩, K.zero, ⟨none, 0, []⟩, ⟨#[]⟩⟩, rfl, rfl, BagOwn.one (OwnV.nil _ _ _ _), S8.out.old⟩
 | true =>
  cases b1 with
  | false =>
   clear f0 f1 f2 f3 f4 f5 f6
   obtain ⟨f0, f1, f2, f3, f4, f5, f6⟩ := Bag.cs7 S6.out 0 rfl
   obtain ⟨z0, z1, z2, z3, z4, z5, z6⟩ := Bag.fs7 S6.out 0 rfl
   go_wp2_with fail
   clear f0 f1 f2 f3 f4 f5 f6 z0 z1 z2 z3 z4 z5 z6
   have S7 := Lib.hid (show Sl.Sep w _ [_, _, _, _, _] from L5.put_box5 (L5.put_box5 (L5.put_box5 (L5.put_box5 (S6.out) 0 rfl 0 (.int .i64 0)) 0 rfl 1 (.string ⟨#[]⟩)) 0 rfl 2 (.int .i64 0)) 0 rfl 3 (.int .i64 0))
   clear S6
   have S8 := Lib.hid (show Sl.Sep w _ [_, _, _, _, _] from L5.put_box5 (L5.put_box5 (L5.put_box5 (S7.out) 0 rfl 4 (.string ⟨#[]⟩)) 0 rfl 5 (.slice none 0 0)) 0 rfl 6 (.string ⟨#[]⟩))
   clear S7
   obtain ⟨f0, f1, f2, f3, f4, f5, f6⟩ := Bag.cs7 S8.out 0 rfl
   refine bodyPost_ret (v := .tuple #[.agg #[.int .i64 0, .string ⟨#[]⟩, .int .i64 0, .int .i64 0, .string ⟨#[]⟩, .slice none 0 0, .string ⟨#[]⟩], .int .i64 0, .bool false]) (by simp [results, Try.results61, go_sem, *]) rfl ?_
   clear f0 f1 f2 f3 f4 f5 f6
   obtain ⟨e1, e2, e3⟩ := HNO.out (by first | rfl | simp)
   rw [e1, e2, e3]
   exact ⟨⟨0, ⟨#[]⟩, K.zero, ⟨none, 0, []⟩, ⟨#[]⟩⟩, rfl, rfl, BagOwn.one (OwnV.nil _ _ _ _), S8.out.old⟩
  | true =>
   cases b2 with
   | false =>
    clear f0 f1 f2 f3 f4 f5 f6
    obtain ⟨f0, f1, f2, f3, f4, f5, f6⟩ := Bag.cs7 S6.out 0 rfl
    obtain ⟨z0, z1, z2, z3, z4, z5, z6⟩ := Bag.fs7 S6.out 0 rfl
    go_wp2_with fail
    clear f0 f1 f2 f3 f4 f5 f6 z0 z1 z2 z3 z4 z5 z6
    have S7 := Lib.hid (show Sl.Sep w _ [_, _, _, _, _] from L5.put_box5 (L5.put_box5 (L5.put_box5 (L5.put_box5 (S6.out) 0 rfl 0 (.int .i64 0)) 0 rfl 1 (.string ⟨#[]⟩)) 0 rfl 2 (.int .i64 0)) 0 rfl 3 (.int .i64 0))
    clear S6
    have S8 := Lib.hid (show Sl.Sep w _ [_, _, _, _, _] from L5.put_box5 (L5.put_box5 (L5.put_box5 (S7.out) 0 rfl 4 (.string ⟨#[]⟩)) 0 rfl 5 (.slice none 0 0)) 0 rfl 6 (.string ⟨#[]⟩))
    clear S7
    obtain ⟨f0, f1, f2, f3, f4, f5, f6⟩ := Bag.cs7 S8.out 0 rfl
    refine bodyPost_ret (v := .tuple #[.agg #[.int .i64 0, .string ⟨#[]⟩, .int .i64 0, .int .i64 0, .string ⟨#[]⟩, .slice none 0 0, .string ⟨#[]⟩], .int .i64 0, .bool false]) (by simp [results, Try.results61, go_sem, *]) rfl ?_
    clear f0 f1 f2 f3 f4 f5 f6
    obtain ⟨e1, e2, e3⟩ := HNO.out (by first | rfl | simp)
    rw [e1, e2, e3]
    exact ⟨⟨0, ⟨#[]⟩, K.zero, ⟨none, 0, []⟩, ⟨#[]⟩⟩, rfl, rfl, BagOwn.one (OwnV.nil _ _ _ _), S8.out.old⟩
   | true =>
    cases b3 with
    | false =>
     clear f0 f1 f2 f3 f4 f5 f6
     obtain ⟨f0, f1, f2, f3, f4, f5, f6⟩ := Bag.cs7 S6.out 0 rfl
     obtain ⟨z0, z1, z2, z3, z4, z5, z6⟩ := Bag.fs7 S6.out 0 rfl
     go_wp2_with fail
     clear f0 f1 f2 f3 f4 f5 f6 z0 z1 z2 z3 z4 z5 z6
     have S7 := Lib.hid (show Sl.Sep w _ [_, _, _, _, _] from L5.put_box5 (L5.put_box5 (L5.put_box5 (L5.put_box5 (S6.out) 0 rfl 0 (.int .i64 0)) 0 rfl 1 (.string ⟨#[]⟩)) 0 rfl 2 (.int .i64 0)) 0 rfl 3 (.int .i64 0))
     clear S6
     have S8 := Lib.hid (show Sl.Sep w _ [_, _, _, _, _] from L5.put_box5 (L5.put_box5 (L5.put_box5 (S7.out) 0 rfl 4 (.string ⟨#[]⟩)) 0 rfl 5 (.slice none 0 0)) 0 rfl 6 (.string ⟨#[]⟩))
     clear S7
     obtain ⟨f0, f1, f2, f3, f4, f5, f6⟩ := Bag.cs7 S8.out 0 rfl
     refine bodyPost_ret (v := .tuple #[.agg #[.int .i64 0, .string ⟨#[]⟩, .int .i64 0, .int .i64 0, .string ⟨#[]⟩, .slice none 0 0, .string ⟨#[]⟩], .int .i64 0, .bool false]) (by simp [results, Try.results61, go_sem, *]) rfl ?_
     clear f0 f1 f2 f3 f4 f5 f6
     obtain ⟨e1, e2, e3⟩ := HNO.out (by first | rfl | simp)
     rw [e1, e2, e3]
     exact ⟨⟨0, ⟨#[]⟩, K.zero, ⟨none, 0, []⟩, ⟨#[]⟩⟩, rfl, rfl, BagOwn.one (OwnV.nil _ _ _ _), S8.out.old⟩
    | true =>
     cases b4 with
     | false =>
      clear f0 f1 f2 f3 f4 f5 f6
      obtain ⟨f0, f1, f2, f3, f4, f5, f6⟩ := Bag.cs7 S6.out 0 rfl
      obtain ⟨z0, z1, z2, z3, z4, z5, z6⟩ := Bag.fs7 S6.out 0 rfl
      go_wp2_with fail
      clear f0 f1 f2 f3 f4 f5 f6 z0 z1 z2 z3 z4 z5 z6
      have S7 := Lib.hid (show Sl.Sep w _ [_, _, _, _, _] from L5.put_box5 (L5.put_box5 (L5.put_box5 (L5.put_box5 (S6.out) 0 rfl 0 (.int .i64 0)) 0 rfl 1 (.string ⟨#[]⟩)) 0 rfl 2 (.int .i64 0)) 0 rfl 3 (.int .i64 0))
      clear S6
      have S8 := Lib.hid (show Sl.Sep w _ [_, _, _, _, _] from L5.put_box5 (L5.put_box5 (L5.put_box5 (S7.out) 0 rfl 4 (.string ⟨#[]⟩)) 0 rfl 5 (.slice none 0 0)) 0 rfl 6 (.string ⟨#[]⟩))
      clear S7
      obtain ⟨f0, f1, f2, f3, f4, f5, f6⟩ := Bag.cs7 S8.out 0 rfl
      refine bodyPost_ret (v := .tuple #[.agg #[.int .i64 0, .string ⟨#[]⟩, .int .i64 0, .int .i64 0, .string ⟨#[]⟩, .slice none 0 0, .string ⟨#[]⟩], .int .i64 0, .bool false]) (by simp [results, Try.results61, go_sem, *]) rfl ?_
      clear f0 f1 f2 f3 f4 f5 f6
      obtain ⟨e1, e2, e3⟩ := HNO.out (by first | rfl | simp)
      rw [e1, e2, e3]
      exact ⟨⟨0, ⟨#[]⟩, K.zero, ⟨none, 0, []⟩, ⟨#[]⟩⟩, rfl, rfl, BagOwn.one (OwnV.nil _ _ _ _), S8.out.old⟩
     | true =>
      have hv1 := run_bytes_string (P := Try.prog) 51 5 9 Try.underlying51 Try.underlying5 Try.underlying9 a1 c1 J1 w5 _ (Sl.Sep.own S6.out 1 rfl).reads
      obtain ⟨s1, hs1⟩ : ∃ x, strOfNums J1 = x := ⟨_, rfl⟩
      rw [hs1] at hv1 HYES
      clear hs1
      have hv4 := run_bytes_string (P := Try.prog) 51 5 9 Try.underlying51 Try.underlying5 Try.underlying9 a4 c4 J4 w5 _ (Sl.Sep.own S6.out 4 rfl).reads
      obtain ⟨s4, hs4⟩ : ∃ x, strOfNums J4 = x := ⟨_, rfl⟩
      rw [hs4] at hv4 HYES
      clear hs4
      clear f0 f1 f2 f3 f4 f5 f6
      obtain ⟨f0, f1, f2, f3, f4, f5, f6⟩ := Bag.cs7 S6.out 0 rfl
      go_upto_region 9 with fail
      clear f0 f1 f2 f3 f4 f5 f6
      clear hv1 hv4
      have S7 := Lib.hid (show Sl.Sep w _ [_, _, _, _, _, _] from L4.push_box S6.out 36 #[.int .i64 kd, .string s1, .int .i64 0, .int .i64 0, .string ⟨#[]⟩, .slice none 0 0, .string s4] w5.heap.size rfl)
      clear S6
      obtain ⟨g1, hg⟩ : ∃ g', g' = w5.heap.size := ⟨_, rfl⟩
      rw [← hg] at S7 ⊢
      clear hg
      generalize w5.alloc (.cells #[.int .i64 kd, .string s1, .int .i64 0, .int .i64 0, .string ⟨#[]⟩, .slice none 0 0, .string s4] 36) = w6 at S7 ⊢
      obtain ⟨K2, hK2⟩ : ∃ k, decK J2 = k := ⟨_, rfl⟩
      obtain ⟨bk, hbk⟩ : ∃ k, L4.decB J2 = k := ⟨_, rfl⟩
      have HDK := fun w1 (hr1 : Reads w1 w1.heap.size a2 (ints .u8 J2)) => L4.specDecodeKey_any a2 c2 J2 w1 hr1 HZ2.out.2 (Sl.Sep.own S7.out 2 rfl).cap HZ2.out.1
      unfold L4.DkE at HDK
      rw [hK2, hbk] at HDK
      rw [hK2] at HYES
      clear hK2 hbk
      obtain ⟨kk, kn, kt⟩ := K2
      unfold L4.K.v at HDK
      dsimp only at HDK
      replace HDK := Lib.hid HDK
      obtain ⟨f0, f1, f2, f3, f4, f5, f6⟩ := Bag.cs7 S7.out 0 rfl
      obtain ⟨f7, f8, f9, f10, f11, f12, f13⟩ := Bag.cs7 S7.out 5 rfl
      go_wp2_with fail
      go_at_call 85
      refine (HDK.out _ (Sl.Sep.own S7.out 2 rfl).reads).mono ?_
      rintro e w7 ⟨rfl, hb⟩
      clear f0 f1 f2 f3 f4 f5 f6 f7 f8 f9 f10 f11 f12 f13
      have S8 := Lib.hid (S7.out.keep hb)
      clear S7
      clear hb
      go_upto_region 10 with fail
      have S9 := Lib.hid (show Sl.Sep w _ [_, _, _, _, _, _, _] from L4.push_box S8.out 31 #[.int .i64 kk, .int .i64 kn, .string kt] w7.heap.size rfl)
      clear S8
      obtain ⟨g2, hg⟩ : ∃ g', g' = w7.heap.size := ⟨_, rfl⟩
      rw [← hg] at S9 ⊢
      clear hg
      generalize w7.alloc (.cells #[.int .i64 kk, .int .i64 kn, .string kt] 31) = w8 at S9 ⊢
      obtain ⟨rl, hrl⟩ : ∃ k, decL J3 = k := ⟨_, rfl⟩
      obtain ⟨br, hbr⟩ : ∃ k, L5.decB J3 = k := ⟨_, rfl⟩
      have HDR := fun w1 (hr1 : Reads w1 w1.heap.size a3 (ints .u8 J3)) => L5.specDecodeRecord_any a3 c3 J3 w1 hr1 HZ3.out.2 (Sl.Sep.own S9.out 3 rfl).cap HZ3.out.1
      rw [hrl, hbr] at HDR
      rw [hrl] at HYES
      clear hrl hbr
      replace HDR := Lib.hid HDR
      obtain ⟨f0, f1, f2, f3, f4, f5, f6⟩ := Bag.cs7 S9.out 0 rfl
      obtain ⟨f7, f8, f9, f10, f11, f12, f13⟩ := Bag.cs7 S9.out 5 rfl
      obtain ⟨f14, f15, f16⟩ := Bag.cs3 S9.out 6 rfl
      go_wp2_with fail
      go_at_call 86
      refine (HDR.out _ (Sl.Sep.own S9.out 3 rfl).reads).mono ?_
      rintro e w9 ⟨ra, rc, rfl, ho, hb⟩
      clear f0 f1 f2 f3 f4 f5 f6 f7 f8 f9 f10 f11 f12 f13 f14 f15 f16
      have S10 := Lib.hid (show Sl.Sep w _ [_, _, _, _, _, _, L4.boxR g2 31 #[.int .i64 kk, .int .i64 kn, .string kt], Sv.ownV 92 2 ra rc rl.length (L5.cellsF rl)] from Sv.push_own S9.out hb ho)
      clear S9
      clear hb ho
      go_upto_region 11 with fail
      have S11 := Lib.hid (show Sl.Sep w _ [_, _, _, _, _, _, _, _, _] from L4.push_box S10.out 34 #[.slice ra rl.length rc] w9.heap.size rfl)
      clear S10
      obtain ⟨g3, hg⟩ : ∃ g', g' = w9.heap.size := ⟨_, rfl⟩
      rw [← hg] at S11 ⊢
      clear hg
      generalize w9.alloc (.cells #[.slice ra rl.length rc] 34) = w10 at S11 ⊢
      obtain ⟨f0, f1, f2, f3, f4, f5, f6⟩ := Bag.cs7 S11.out 0 rfl
      obtain ⟨f7, f8, f9, f10, f11, f12, f13⟩ := Bag.cs7 S11.out 5 rfl
      obtain ⟨f14, f15, f16⟩ := Bag.cs3 S11.out 6 rfl
      have f17 := Bag.cs1 S11.out 8 rfl
      obtain ⟨z0, z1, z2, z3, z4, z5, z6⟩ := Bag.fs7 S11.out 5 rfl
      go_upto_region 12 with fail
      clear f0 f1 f2 f3 f4 f5 f6 f7 f8 f9 f10 f11 f12 f13 f14 f15 f16 f17 z0 z1 z2 z3 z4 z5 z6
      have S12 := Lib.hid (show Sl.Sep w _ [_, _, _, _, _, L4.boxR g1 36 #[.int .i64 kd, .string s1, .int .i64 kk, .int .i64 kn, .string kt, .slice none 0 0, .string s4], _, _, L4.boxR g3 34 #[.slice ra rl.length rc]] from L5.put_box5 (L5.put_box5 (L5.put_box5 (S11.out) 5 rfl 2 (.int .i64 kk)) 5 rfl 3 (.int .i64 kn)) 5 rfl 4 (.string kt))
      clear S11
      obtain ⟨f0, f1, f2, f3, f4, f5, f6⟩ := Bag.cs7 S12.out 0 rfl
      obtain ⟨f7, f8, f9, f10, f11, f12, f13⟩ := Bag.cs7 S12.out 5 rfl
      obtain ⟨f14, f15, f16⟩ := Bag.cs3 S12.out 6 rfl
      have f17 := Bag.cs1 S12.out 8 rfl
      obtain ⟨z0, z1, z2, z3, z4, z5, z6⟩ := Bag.fs7 S12.out 5 rfl
      go_upto_region 13 with fail
      clear f0 f1 f2 f3 f4 f5 f6 f7 f8 f9 f10 f11 f12 f13 f14 f15 f16 f17 z0 z1 z2 z3 z4 z5 z6
      have S13 := Lib.hid (show Sl.Sep w _ [_, _, _, _, _, L4.boxR g1 36 #[.int .i64 kd, .string s1, .int .i64 kk, .int .i64 kn, .string kt, .slice ra rl.length rc, .string s4], _, _, _] from L5.put_box5 (S12.out) 5 rfl 5 (.slice ra rl.length rc))
      clear S12
      obtain ⟨f0, f1, f2, f3, f4, f5, f6⟩ := Bag.cs7 S13.out 0 rfl
      obtain ⟨f7, f8, f9, f10, f11, f12, f13⟩ := Bag.cs7 S13.out 5 rfl
      obtain ⟨f14, f15, f16⟩ := Bag.cs3 S13.out 6 rfl
      have f17 := Bag.cs1 S13.out 8 rfl
      obtain ⟨z0, z1, z2, z3, z4, z5, z6⟩ := Bag.fs7 S13.out 0 rfl
      go_wp2_with fail
      clear f0 f1 f2 f3 f4 f5 f6 f7 f8 f9 f10 f11 f12 f13 f14 f15 f16 f17 z0 z1 z2 z3 z4 z5 z6
      have S14 := Lib.hid (show Sl.Sep w _ [L4.boxR w.heap.size 36 #[.int .i64 kd, .string s1, .int .i64 kk, .int .i64 kn, .string ⟨#[]⟩, .slice none 0 0, .string ⟨#[]⟩], _, _, _, _, _, _, _, _] from L5.put_box5 (L5.put_box5 (L5.put_box5 (L5.put_box5 (S13.out) 0 rfl 0 (.int .i64 kd)) 0 rfl 1 (.string s1)) 0 rfl 2 (.int .i64 kk)) 0 rfl 3 (.int .i64 kn))
      clear S13
      have S15 := Lib.hid (show Sl.Sep w _ [L4.boxR w.heap.size 36 #[.int .i64 kd, .string s1, .int .i64 kk, .int .i64 kn, .string kt, .slice ra rl.length rc, .string s4], _, _, _, _, _, _, _, _] from L5.put_box5 (L5.put_box5 (L5.put_box5 (S14.out) 0 rfl 4 (.string kt)) 0 rfl 5 (.slice ra rl.length rc)) 0 rfl 6 (.string s4))
      clear S14
      obtain ⟨f0, f1, f2, f3, f4, f5, f6⟩ := Bag.cs7 S15.out 0 rfl
      refine bodyPost_ret (v := .tuple #[.agg #[.int .i64 kd, .string s1, .int .i64 kk, .int .i64 kn, .string kt, .slice ra rl.length rc, .string s4], .int .i64 q5, .bool true]) (by simp [results, Try.results61, go_sem, *]) rfl ?_
      clear f0 f1 f2 f3 f4 f5 f6
      obtain ⟨e1, e2, e3⟩ := HYES.out rfl
      rw [e1, e2, e3]
      exact ⟨⟨kd, s1, ⟨kk, kn, kt⟩, ⟨ra, rc, rl⟩, s4⟩, rfl, rfl, Bag.bag_from (Bag.bag_of_one S15.out 7 (r := row_Field ra rc rl) rfl) 7 rfl, S15.out.old⟩
set_option maxHeartbeats 8000000 in
theorem specDecodeOps_any (a : Option Addr) (c : Nat) (l : List Int) (hb : Byt l) (hc : l.length ≤ c) (hl : l.length ≤ 1099511627776) (w : World) (hr : Reads w w.heap.size a (ints .u8 l)) :
  Calls Try.prog 30 #[.slice a l.length c] w (GaveOs w (dcL limS l) (dcB limS l)) := by
 have HRE := Lib.hid (fun w1 (h : Below w.heap.size w w1) => ((hr.below h).more h.size : Reads w1 w1.heap.size a (ints .u8 l)))
 have HRD := fun (w1 : World) (h : Below w.heap.size w w1) => specReadB_any a c l 0 w1 _ (Nat.le_refl _) ((hr.below h).more h.size) hb hc hl (by omega) (by omega)
 have HRO := fun (o : Int) (h0 : 0 ≤ o) (h1 : o ≤ l.length) (w1 : World) (h : Below w.heap.size w w1) => l9Read_any a c l hb hc hl o h0 h1 w1 ((hr.below h).more h.size)
 have HPL := fun o => roE_place hb limS o
 have HFT := Lib.hid (fun o => roX_fit hb hl limS o)
 have hbd := rd_bounds hb 0
 have HLB := Lib.hid (And.intro hb (And.intro hc hl))
 obtain ⟨n0, hn0⟩ : ∃ x, rdN l 0 = x := ⟨_, rfl⟩
 obtain ⟨q0, hq0⟩ : ∃ x, rdE l 0 = x := ⟨_, rfl⟩
 obtain ⟨b0, hb0⟩ : ∃ x, rdB l 0 = x := ⟨_, rfl⟩
 unfold RdE at HRD
 rw [hn0, hq0, hb0] at HRD
 rw [hn0, hq0] at hbd
 replace HRD := Lib.hid HRD
 obtain ⟨RL, hRL⟩ : ∃ x, dcL limS l = x := ⟨_, rfl⟩
 obtain ⟨RO, hRO⟩ : ∃ x, dcB limS l = x := ⟨_, rfl⟩
 rw [hRL, hRO]
 have HN := Lib.hid (fun (h : rdL limS l = none) => show RL = [] ∧ RO = false from by rw [← hRL, ← hRO]; exact dc_no (dcO_none h))
 have HNE := Lib.hid (fun os (h : rdL limS l = some os) (h2 : eqB (encL os) l = false) => show RL = [] ∧ RO = false from by rw [← hRL, ← hRO]; exact dc_no (by rw [dcO_eq h, h2]; rfl))
 have HYE := Lib.hid (fun os (h : rdL limS l = some os) (h2 : eqB (encL os) l = true) => show RL = os ∧ RO = true from by rw [← hRL, ← hRO]; exact dc_yes (by rw [dcO_eq h, h2]; rfl))
 have HQ0 := Lib.hid (And.intro hn0 (And.intro hq0 hb0))
 clear hRL hRO hn0 hq0 hb0 hr hb hc hl
 obtain ⟨L, hL⟩ : ∃ n, n = l.length := ⟨_, rfl⟩
 rw [← hL] at HRD HRO HPL hbd ⊢
 replace HRO := Lib.hid HRO
 replace HPL := Lib.hid HPL
 have HLE := Lib.hid hL
 clear hL
 have S1 := Lib.hid (show Sl.Sep w w [] from Sl.Sep.start w)
 obtain ⟨iO, hi1, hi2, hi3, hi4⟩ := infoO
 have HIO := Lib.hid (And.intro hi1 (And.intro hi2 (And.intro hi3 hi4)))
 clear hi1 hi2 hi3 hi4
 go_enter Try.func30, Try.ntmps30
 go_wp2_with fail
 go_at_call 60
 refine (HRD.out _ S1.out.old).mono ?_
 rintro e w1 ⟨rfl, hb⟩
 have S2 := Lib.hid (S1.out.keep hb)
 clear S1
 clear hb
 cases b0 with
 | false =>
  go_wp2_with fail
  have S3 := Lib.hid (show Sl.Sep w _ [Sv.ownV 36 7 (some ⟨w1.heap.size, 0, none⟩) 0 0 (([] : List Y_Op).flatMap cl_Op)] from Sv.push_own S2.out ((Below.refl _ _).alloc (Nat.le_refl _) _) (OwnV.madeAt w1 36 7 0 w1.heap.size #[] rfl (Nat.le_refl _) rfl (by decide)))
  clear S2
  go_ret2
  obtain ⟨e1, e2⟩ := HN.out (rdL_no (by rw [HQ0.out.2.2]; rfl))
  rw [e1, e2]
  exact ⟨_, 0, [], rfl, rfl, Bag.bag_from (Bag.bag_of_one S3.out 0 (r := row_Op (some ⟨w1.heap.size, 0, none⟩) 0 []) rfl) 0 rfl, S3.out.old⟩
 | true =>
  by_cases h6 : (6 : Int) < n0
  ·
   skip
   go_wp2_with fail
   have S3 := Lib.hid (show Sl.Sep w _ [Sv.ownV 36 7 (some ⟨w1.heap.size, 0, none⟩) 0 0 (([] : List Y_Op).flatMap cl_Op)] from Sv.push_own S2.out ((Below.refl _ _).alloc (Nat.le_refl _) _) (OwnV.madeAt w1 36 7 0 w1.heap.size #[] rfl (Nat.le_refl _) rfl (by decide)))
   clear S2
   go_ret2
   obtain ⟨e1, e2⟩ := HN.out (rdL_no (by rw [HQ0.out.1, HQ0.out.2.2, decide_eq_false (by omega)]; rfl))
   rw [e1, e2]
   exact ⟨_, 0, [], rfl, rfl, Bag.bag_from (Bag.bag_of_one S3.out 0 (r := row_Op (some ⟨w1.heap.size, 0, none⟩) 0 []) rfl) 0 rfl, S3.out.old⟩
  ·
   skip
   obtain ⟨K0, hK0⟩ : ∃ k : Nat, n0 = (k : Int) := ⟨n0.toNat, by omega⟩
   subst hK0
   have hK6 : K0 ≤ 6 := by omega
   have H06 := Lib.hid (show (rdB l 0 && decide (rdN l 0 ≤ 6)) = true from by rw [HQ0.out.1, HQ0.out.2.2, decide_eq_true (by omega)]; rfl)
   go_wp2_with fail
   have S3 := Lib.hid (show Sl.Sep w _ [Sv.ownV 36 7 (some ⟨w1.heap.size, 0, none⟩) 0 0 (([] : List Y_Op).flatMap cl_Op)] from Sv.push_own S2.out ((Below.refl _ _).alloc (Nat.le_refl _) _) (OwnV.madeAt w1 36 7 0 w1.heap.size #[] rfl (Nat.le_refl _) rfl (by decide)))
   clear S2
   have S4 := Lib.hid (show Sl.Sep w _ [_, Bag.bag (rws_Op [])] from Bag.push_bag S3.out (Below.refl _ _) (Bag.BagOwn.nil _ _))
   clear S3
   go_loopw [5, 7, 8] (fun o s i wr => ∃ (k : Nat) (A : Option Addr) (C : Nat) (ys : List Y_Op) (q : Int), k ≤ K0 ∧ i = .int .i64 k ∧ o = .int .i64 q ∧ s = .slice A k C ∧ 0 ≤ q ∧ q ≤ L ∧ Hid (((∀ o ∈ coS_Op ys, FitO o) ∧ RaMid limS l q0 K0 k (coS_Op ys) q) ∧ Sl.Sep w wr [Sv.ownV 36 7 A C k (ys.flatMap cl_Op), Bag.bag (rws_Op ys)])) (fun _ _ i _ => K0 - (intOf i).toNat)
   case atStart => exact ⟨0, _, _, [], q0, Nat.zero_le _, rfl, rfl, rfl, by omega, by omega, And.intro ⟨fun o ho => (by cases ho), RaMid.start _ _ _ _⟩ S4.out⟩
   case round =>
    obtain ⟨k, A, C, ys, q, hk, rfl, rfl, rfl, hq1, hq2, hrel⟩ := hrel
    have HI := Lib.hid hrel.out.1
    have S9 := Lib.hid hrel.out.2
    clear hrel S4
    by_cases hlt : (k : Int) < (K0 : Int)
    ·
     skip
     obtain ⟨RX, hRX⟩ : ∃ x, roX limS l q = x := ⟨_, rfl⟩
     obtain ⟨RE, hRE⟩ : ∃ x, roE limS l q = x := ⟨_, rfl⟩
     obtain ⟨RB, hRB⟩ : ∃ x, opB_ limS l q = x := ⟨_, rfl⟩
     have HR1 := fun w1 h => HRO.out q hq1 hq2 w1 h
     rw [hRX, hRE, hRB] at HR1
     replace HR1 := Lib.hid HR1
     have hp := HPL.out q
     have hft := HFT.out q
     rw [hRE] at hp
     rw [hRX] at hft
     have HNX := Lib.hid (fun (h : RB = true) => show rdOp limS l q = some (RX, RE) from by rw [← hRX, ← hRE]; exact (ro_yes (hRB.trans h)).2.2)
     have HNF := Lib.hid (fun (h : RB = false) => show rdOp limS l q = none from (ro_no (hRB.trans h)).2.2)
     have HFX := Lib.hid hft
     clear hRX hRE hRB hft
     go_wp2_with fail
     go_at_call 61
     refine (HR1.out _ S9.out.old).mono ?_
     rintro e w2 ⟨y, rfl, hco, ho, hb⟩
     have S10 := Lib.hid (show Sl.Sep w _ [Sv.ownV 36 7 A C k (ys.flatMap cl_Op), Bag.bag (rws_Op ys), Bag.bag (rw_Op y)] from Bag.push_bag S9.out hb ho)
     clear S9
     clear hb ho
     have HCO := Lib.hid hco
     clear hco
     unfold vv_Op
     go_upto_region 9 with fail
     have S11 := Lib.hid (show Sl.Sep w _ [_, _, _, _] from L4.push_box S10.out 36 #[.int .i64 y.f_Kind, .string y.f_Store, .int .i64 y.f_Key.kind, .int .i64 y.f_Key.n, .string y.f_Key.text, .slice y.f_Record.a y.f_Record.l.length y.f_Record.c, .string y.f_Field] w2.heap.size rfl)
     clear S10
     obtain ⟨g1, hg⟩ : ∃ g', g' = w2.heap.size := ⟨_, rfl⟩
     rw [← hg] at S11 ⊢
     clear hg
     generalize w2.alloc (.cells #[.int .i64 y.f_Kind, .string y.f_Store, .int .i64 y.f_Key.kind, .int .i64 y.f_Key.n, .string y.f_Key.text, .slice y.f_Record.a y.f_Record.l.length y.f_Record.c, .string y.f_Field] 36) = w3 at S11 ⊢
     cases RB with
     | false =>
      obtain ⟨f0, f1, f2, f3, f4, f5, f6⟩ := Bag.cs7 S11.out 3 rfl
      go_wp2_with fail
      have S12 := Lib.hid (show Sl.Sep w _ [_, _, _, L4.boxR g1 36 #[.int .i64 y.f_Kind, .string y.f_Store, .int .i64 y.f_Key.kind, .int .i64 y.f_Key.n, .string y.f_Key.text, .slice y.f_Record.a y.f_Record.l.length y.f_Record.c, .string y.f_Field], Sv.ownV 36 7 (some ⟨w3.heap.size, 0, none⟩) 0 0 (([] : List Y_Op).flatMap cl_Op)] from Sv.push_own S11.out ((Below.refl _ _).alloc (Nat.le_refl _) _) (OwnV.madeAt w3 36 7 0 w3.heap.size #[] rfl (Nat.le_refl _) rfl (by decide)))
      clear S11
      go_ret2
      obtain ⟨e1, e2⟩ := HN.out (rdL_none (by rw [HQ0.out.1, HQ0.out.2.1, Int.toNat_natCast]; exact RaMid.fail HI.out.2 (by omega) (HNF.out (by simp))))
      rw [e1, e2]
      exact ⟨_, 0, [], rfl, rfl, Bag.bag_from (Bag.bag_of_one S12.out 4 (r := row_Op (some ⟨w3.heap.size, 0, none⟩) 0 []) rfl) 4 rfl, S12.out.old⟩
     | true =>
      obtain ⟨f0, f1, f2, f3, f4, f5, f6⟩ := Bag.cs7 S11.out 3 rfl
      have S12 := Lib.hid (show Sl.Sep w _ [_, _, _, L4.boxR g1 36 #[.int .i64 y.f_Kind, .string y.f_Store, .int .i64 y.f_Key.kind, .int .i64 y.f_Key.n, .string y.f_Key.text, .slice y.f_Record.a y.f_Record.l.length y.f_Record.c, .string y.f_Field], Sv.ownV 36 7 (some ⟨w3.heap.size, 0, none⟩) 1 1 ([y].flatMap cl_Op)] from Sv.push_own S11.out ((Below.refl _ _).alloc (Nat.le_refl _) _) (OwnV.madeAt w3 36 7 1 w3.heap.size #[.int .i64 y.f_Kind, .string y.f_Store, .int .i64 y.f_Key.kind, .int .i64 y.f_Key.n, .string y.f_Key.text, .slice y.f_Record.a y.f_Record.l.length y.f_Record.c, .string y.f_Field] rfl (Nat.le_refl _) rfl (by decide)))
      clear S11
      go_wp2_with (at_builtin; refine L5.wpList_append_v S12.out 0 rfl rfl _ _ 44 (by rfl) iO (.agg #[.int .i64 0, .string ⟨#[]⟩, .int .i64 0, .int .i64 0, .string ⟨#[]⟩, .slice none 0 0, .string ⟨#[]⟩]) 96 Try.underlying44 HIO.out.1 HIO.out.2.1 HIO.out.2.2.1 HIO.out.2.2.2 rfl (by omega) _ (by rfl) rfl _ _ 1 _ _ ([y].flatMap cl_Op) (by rfl) rfl (Sv.own_at S12.out 4 rfl).reads rfl (one_flat cl_Op_one _) (by unfold maxLen; omega) (by omega) ?_; intro a2' c2' w4 hA)
      have S13 := Lib.hid (show Sl.Sep w _ [Sv.ownV 36 7 a2' c2' (k + 1) (ys.flatMap cl_Op ++ ([y].flatMap cl_Op)), _, _, _, _] from hA)
      clear S12
      clear hA
      clear f0 f1 f2 f3 f4 f5 f6
      have S14 := Lib.hid (show Sl.Sep w _ [_, _, _] from Bag.take S13.out [0, 1, 2] (by rfl) (by decide))
      clear S13
      have S15 := Lib.hid (show Sl.Sep w _ [_, Bag.bag (rws_Op ys ++ (rw_Op y)), Bag.bag ([])] from Bag.bag_join S14.out 1 2 (by decide) rfl rfl)
      clear S14
      have S16 := Lib.hid (show Sl.Sep w _ [_, _] from Bag.take S15.out [0, 1] (by rfl) (by decide))
      clear S15
      go_wp2_with fail
      go_roundw
      case rel =>
       refine ⟨k + 1, a2', c2', ys ++ [y], RE, by omega, by go_num, rfl, by first | rfl | go_num, hp.1, hp.2, And.intro ⟨?_, ?_⟩ ?_⟩
       ·
        intro o ho
        rw [coS_Op_eq, List.map_append] at ho
        rcases List.mem_append.1 ho with h | h
        ·
         exact HI.out.1 o h
        ·
         rw [List.map_cons, List.map_nil, List.mem_singleton] at h; rw [h, HCO.out]; exact HFX.out
       ·
        rw [coS_Op_eq, List.map_append, List.map_cons, List.map_nil, HCO.out]; exact RaMid.next HI.out.2 (by omega) (HNX.out (by simp))
       ·
        rw [List.flatMap_append, rws_Op_app, show rws_Op [y] = rw_Op y from by rw [rws_Op_eq]; simp]; exact S16.out
      case measure => simp [intOf]; omega
    ·
     skip
     obtain rfl : k = K0 := by omega
     have HRL := Lib.hid (show rdL limS l = some (coS_Op ys) from rdL_some H06.out (by rw [HQ0.out.1, HQ0.out.2.1, Int.toNat_natCast]; exact HI.out.2.done))
     have HYL := Lib.hid (show ys.length = k from by have h := HI.out.2.1; rwa [coS_len] at h)
     obtain ⟨XE, hXE⟩ : ∃ x, encL (coS_Op ys) = x := ⟨_, rfl⟩
     obtain ⟨be, hbe⟩ : ∃ x, eqB XE l = x := ⟨_, rfl⟩
     have HEN := fun w1 (h1 : Reads w1 w1.heap.size A (ys.flatMap cl_Op)) (h2 : RowsRd w1 w1.heap.size (rws_Op ys)) => specEncodeOps_any A C ys (by have := HYL.out; omega) HI.out.1 w1 h1 h2
     rw [hXE, HYL.out] at HEN
     replace HEN := Lib.hid HEN
     have HXB := Lib.hid (show Byt XE from by rw [← hXE]; exact encL_byt _)
     have HEB := fun (B : Nat) w1 (a2 : Option Addr) (c2 : Nat) (h1 : Reads w1 B a2 (ints .u8 XE)) (h2 : Reads w1 B a (ints .u8 l)) => (specEqualBytes_any a2 a c2 c XE l w1 B h1 h2 HXB.out HLB.out.1).mono (R' := fun e w2 => e = .returned (.bool be) ∧ Below w1.heap.size w1 w2) (fun e w2 hh => ⟨by rw [← hbe]; exact hh.1, hh.2.below _⟩)
     rw [← HLE.out] at HEB
     replace HEB := Lib.hid HEB
     have HBE := Lib.hid (show eqB (encL (coS_Op ys)) l = be from by rw [hXE]; exact hbe)
     clear hXE hbe
     go_wp2_with fail
     go_at_call 25
     refine (HEN.out _ (Sv.own_at S9.out 0 rfl).reads (Bag.bag_rd S9.out 1 rfl)).mono ?_
     rintro e w2 ⟨ea, ec, rfl, ho, hb⟩
     have S10 := Lib.hid (show Sl.Sep w _ [Sv.ownV 36 7 A C k (ys.flatMap cl_Op), Bag.bag (rws_Op ys), Sl.own 5 .u8 ea ec XE] from Sl.Sep.pushOwn S9.out hb ho)
     clear S9
     clear hb ho
     go_wp2_with fail
     go_at_call 62
     refine (HEB.out _ _ ea ec (Sl.Sep.own S10.out 2 rfl).reads (HRE.out _ S10.out.old)).mono ?_
     rintro e w3 ⟨rfl, hb⟩
     have S11 := Lib.hid (S10.out.keep hb)
     clear S10
     clear hb
     cases be with
     | false =>
      go_wp2_with fail
      have S12 := Lib.hid (show Sl.Sep w _ [_, _, Sl.own 5 .u8 ea ec XE, Sv.ownV 36 7 (some ⟨w3.heap.size, 0, none⟩) 0 0 (([] : List Y_Op).flatMap cl_Op)] from Sv.push_own S11.out ((Below.refl _ _).alloc (Nat.le_refl _) _) (OwnV.madeAt w3 36 7 0 w3.heap.size #[] rfl (Nat.le_refl _) rfl (by decide)))
      clear S11
      go_ret2
      obtain ⟨e1, e2⟩ := HNE.out _ HRL.out HBE.out
      rw [e1, e2]
      exact ⟨_, 0, [], rfl, rfl, Bag.bag_from (Bag.bag_of_one S12.out 3 (r := row_Op (some ⟨w3.heap.size, 0, none⟩) 0 []) rfl) 3 rfl, S12.out.old⟩
     | true =>
      go_wp2_with fail
      go_ret2
      obtain ⟨e1, e2⟩ := HYE.out _ HRL.out HBE.out
      rw [e1, e2]
      have S90 := Lib.hid (Bag.bag_of_one S11.out 0 (r := row_Op A C ys) (by unfold RowS.res row_Op; dsimp only; rw [HYL.out]; rfl))
      have S91 := Lib.hid (Bag.bag_join S90.out 0 1 (by decide) rfl rfl)
      exact ⟨A, C, ys, by rw [HYL.out]; rfl, rfl, Bag.bag_from S91.out 0 rfl, S11.out.old⟩
end Go.Proofs.Ythiidcflpgbogaa.L9

namespace Go.Proofs.Ythiidcflpgbogaa.L4
open Go.ChangeShapes Go.WideShapes Go.ChangeAt Go.RowKit Mem Sl Ex L2
def isLet (c : UInt8) : Bool := decide (97 ≤ c.toNat) && decide (c.toNat ≤ 122)
theorem isLetter_any (c : UInt8) (w : World) :
    Calls Try.prog 73 #[.int .u8 c.toNat] w fun e w' => e = .returned (.bool (isLet c)) ∧ w = w' := by
  by_cases h1 : (97 : Int) ≤ c.toNat <;> by_cases h2 : (c.toNat : Int) ≤ 122 <;>
    (go_enter Try.func73, Try.ntmps73
     go_wp2
     go_ret
     exact ⟨L1.ret_bool (by unfold isLet; have h1' := h1; have h2' := h2; simp only [Bool.false_eq, Bool.true_eq, Bool.and_eq_false_iff, Bool.and_eq_true, decide_eq_false_iff_not, decide_eq_true_eq]; omega), rfl⟩)
end Go.Proofs.Ythiidcflpgbogaa.L4

namespace Go.Proofs.Ythiidcflpgbogaa.L4
open Go.ChangeShapes Go.WideShapes Go.ChangeAt Go.RowKit Mem Sl Ex L2

def isDig (c : UInt8) : Bool := decide (48 ≤ c.toNat) && decide (c.toNat ≤ 57)
theorem chr_eq (c : UInt8) : chr c = (isLet c || isDig c) := rfl

theorem isDigit_any (c : UInt8) (w : World) :
    Calls Try.prog 93 #[.int .u8 c.toNat] w fun e w' => e = .returned (.bool (isDig c)) ∧ w = w' := by
  by_cases h1 : (48 : Int) ≤ c.toNat <;> by_cases h2 : (c.toNat : Int) ≤ 57 <;>
    (go_enter Try.func93, Try.ntmps93
     go_wp2
     go_ret
     exact ⟨L1.ret_bool (by unfold isDig; have h1' := h1; have h2' := h2; simp only [Bool.false_eq, Bool.true_eq, Bool.and_eq_false_iff, Bool.and_eq_true, decide_eq_false_iff_not, decide_eq_true_eq]; omega), rfl⟩)
theorem isKeyNumber_any (n : Int) (w : World) :
    Calls Try.prog 74 #[.int .i64 n] w fun e w' => e = .returned (.bool (L1.inB n (-1000000000000) 1000000000000)) ∧ w = w' := by
  have H1 := Lib.hid (fun w => L1.inRange_any n (-1000000000000) 1000000000000 w)
  obtain ⟨b, hb⟩ : ∃ b, L1.inB n (-1000000000000) 1000000000000 = b := ⟨_, rfl⟩
  rw [hb] at H1 ⊢
  go_enter Try.func74, Try.ntmps74
  go_wp2_with (go_at_call 72; with_reducible refine (H1.out _).mono ?_; rintro e w1 ⟨rfl, rfl⟩)
  go_ret
  exact ⟨rfl, rfl⟩
theorem isKeyText_any (s : ByteArray) (hs : s.size ≤ 281474976710656) (w : World) :
    Calls Try.prog 75 #[.string s] w fun e w' => e = .returned (.bool (isT s.data.toList)) ∧ w = w' := by
  have hsz : s.data.toList.length = s.size := by rw [Array.length_toList]; rfl
  have HZ := Lib.hid hsz
  clear hsz
  by_cases h12 : (s.size : Int) ≤ 12
  · go_enter Try.func75, Try.ntmps75
    go_wp2
    go_loop [9] (fun i => ∃ k : Nat, k ≤ s.size ∧ i = .int .i64 k ∧ Hid (∀ j (hj : j < s.data.toList.length), j < k → chr s.data.toList[j] = true)) (fun i => s.size - (intOf i).toNat)
    case atStart => exact ⟨0, Nat.zero_le _, rfl, fun j hj h => by omega⟩
    case round =>
      obtain ⟨k, hk, rfl, hrel⟩ := hrel
      by_cases hlt : k < s.size
      · have hb : s.data.toList[k]? = some s[k] := by
          rw [List.getElem?_eq_getElem (by rw [HZ.out]; exact hlt)]
          rfl
        have HB := Lib.hid hb
        clear hb
        have HC := Lib.hid (chr_eq s[k])
        have H1 := Lib.hid (fun w => isLetter_any s[k] w)
        have H2 := Lib.hid (fun w => isDigit_any s[k] w)
        obtain ⟨bl, hbl⟩ : ∃ b, isLet s[k] = b := ⟨_, rfl⟩
        obtain ⟨bd, hbd⟩ : ∃ b, isDig s[k] = b := ⟨_, rfl⟩
        rw [hbl] at H1 HC
        rw [hbd] at H2 HC
        clear hbl hbd
        cases bl
        all_goals
          cases bd
          all_goals
            go_wp2_with (first
              | (go_at_call 73; refine (H1.out _).mono ?_; rintro e w1 ⟨rfl, rfl⟩)
              | (go_at_call 93; refine (H2.out _).mono ?_; rintro e w1 ⟨rfl, rfl⟩))
            first
            | (go_round
               case rel => exact ⟨k + 1, by omega, by go_num, fun j hj h => by
                  by_cases e : j < k
                  · exact hrel.out j hj e
                  · obtain rfl : j = k := by omega
                    have := HB.out
                    rw [List.getElem?_eq_getElem hj] at this
                    rw [Option.some.inj this]
                    exact HC.out⟩
               case measure => simp [intOf]; omega)
            | (go_ret
               exact ⟨by rw [isT_no k _ HB.out HC.out]; rfl, rfl⟩)
      · go_wp2
        go_ret
        obtain rfl : k = s.size := by omega
        have e1 := isT_all (fun j hj => hrel.out j hj (by rw [HZ.out] at hj; exact hj))
        rw [HZ.out] at e1
        refine ⟨?_, rfl⟩
        rw [e1, decide_eq_true (show s.size ≤ 12 by omega)]
        rfl
  · go_enter Try.func75, Try.ntmps75
    go_wp2
    go_ret
    refine ⟨?_, rfl⟩
    have : isT s.data.toList = false := by
      unfold isT
      rw [HZ.out, decide_eq_false (show ¬ s.size ≤ 12 by omega), Bool.and_false]
    rw [this]
    rfl
set_option maxHeartbeats 2000000 in
theorem implIsKey_any (k : K) (hs : k.text.size ≤ 281474976710656) (w : World) :
    Calls Try.prog 47 #[k.v] w fun e w' => e = .returned (.bool (isK k)) ∧ Below w.heap.size w w' := by
  obtain ⟨kd, n, s⟩ := k
  unfold K.v
  obtain ⟨b2, hb2⟩ : ∃ b, L1.inB n (-1000000000000) 1000000000000 = b := ⟨_, rfl⟩
  obtain ⟨b4, hb4⟩ : ∃ b, isT s.data.toList = b := ⟨_, rfl⟩
  have H2 := Lib.hid (fun w => isKeyNumber_any n w)
  have H4 := Lib.hid (fun w => isKeyText_any s hs w)
  rw [hb2] at H2
  rw [hb4] at H4
  obtain ⟨c0, hc0⟩ : ∃ b, (n == 0) = b := ⟨_, rfl⟩
  obtain ⟨ct, hct⟩ : ∃ b, (s.toList == []) = b := ⟨_, rfl⟩
  have HE := show isK ⟨kd, n, s⟩ = (L1.inB kd 1 3 && b2 && (kd != 2 || c0) && b4 && (kd != 1 || ct)) by unfold isK; rw [hb2, show K.t ⟨kd, n, s⟩ = s.data.toList from rfl, hb4, ← hct, ByteArray.toList_eq, ← hc0]
  have hx1 : ct = true → b4 = true := fun h => by
    rw [h, ByteArray.toList_eq, beq_iff_eq] at hct
    rw [← hb4, hct]
    rfl
  have hx2 : c0 = true → b2 = true := fun h => by
    rw [h, beq_iff_eq] at hc0
    rw [← hb2, hc0]
    rfl
  have HB := Lib.hid (fun o => below_alloc (Below.refl w.heap.size w) o (Nat.le_refl _))
  clear hb2 hb4
  rcases (show kd = 1 ∨ kd = 2 ∨ kd = 3 ∨ (kd ≠ 1 ∧ kd ≠ 2 ∧ kd ≠ 3) by omega) with rfl | rfl | rfl | ⟨hk1, hk2, hk3⟩
  · rw [show isK ⟨1, n, s⟩ = (b2 && ct) by rw [HE]; revert hx1; cases b2 <;> cases b4 <;> cases ct <;> simp [L1.inB]]
    clear HE hc0 hx1 hx2
    rcases (show b2 = false ∨ b2 = true by cases b2 <;> simp) with rfl | rfl
    all_goals
      go_enter Try.func47, Try.ntmps47
      go_wp2_with (go_at_call 74; with_reducible refine (H2.out _).mono ?_; rintro e w1 ⟨rfl, rfl⟩)
      go_ret
      exact ⟨rfl, HB.out _⟩
  · rw [show isK ⟨2, n, s⟩ = (c0 && b4) by rw [HE]; revert hx2; cases b2 <;> cases b4 <;> cases c0 <;> simp [L1.inB]]
    clear HE hct hx1 hx2
    rcases (show c0 = false ∨ c0 = true by cases c0 <;> simp) with rfl | rfl
    all_goals
      go_enter Try.func47, Try.ntmps47
      go_wp2_with (go_at_call 75; refine (H4.out _).mono ?_; rintro e w1 ⟨rfl, rfl⟩)
      go_ret
      exact ⟨rfl, HB.out _⟩
  · rw [show isK ⟨3, n, s⟩ = (b2 && b4) by rw [HE]; cases b2 <;> cases b4 <;> cases c0 <;> cases ct <;> simp [L1.inB]]
    clear HE hct hc0 hx1 hx2
    rcases (show b2 = false ∨ b2 = true by cases b2 <;> simp) with rfl | rfl
    all_goals
      go_enter Try.func47, Try.ntmps47
      go_wp2_with (first
        | (go_at_call 74; with_reducible refine (H2.out _).mono ?_; rintro e w1 ⟨rfl, rfl⟩)
        | (go_at_call 75; refine (H4.out _).mono ?_; rintro e w1 ⟨rfl, rfl⟩))
      go_ret
      exact ⟨rfl, HB.out _⟩
  · have : L1.inB kd 1 3 = false := L1.inB_false.2 (by omega)
    rw [HE, this]
    clear HE hct hc0 hx1 hx2 this
    replace hk1 : ¬ kd = 1 := hk1
    replace hk2 : ¬ kd = 2 := hk2
    replace hk3 : ¬ kd = 3 := hk3
    go_enter Try.func47, Try.ntmps47
    go_wp2_with fail
    go_ret
    exact ⟨by simp, HB.out _⟩
end Go.Proofs.Ythiidcflpgbogaa.L4

namespace Go.Proofs.Ythiidcflpgbogaa.L5
open Go.Op (bytesLess)
open Go.ChangeShapes Go.WideShapes Go.ChangeAt Go.RowKit Mem Sl Ex L2 Sv

theorem low_isLet (c : UInt8) : L4.isLet c = low c := rfl
theorem isName_any (s : ByteArray) (hs : s.size ≤ 281474976710656) (w : World) :
  Calls Try.prog 44 #[.string s] w fun e w' => e = .returned (.bool (isN s.data.toList)) ∧ w = w' := by
 have hsz : s.data.toList.length = s.size := by rw [Array.length_toList]; rfl
 have HZ := Lib.hid hsz
 clear hsz
 have HI := Lib.hid (fun w => L1.inRange_any (s.size : Int) 1 8 w)
 have HS := Lib.hid (show L1.inB (s.size : Int) 1 8 = false → isN s.data.toList = false from fun h => by
  unfold isN
  rw [Bool.and_eq_false_iff]
  right
  rw [HZ.out, ← h]
  unfold L1.inB
  congr 1 <;> (rw [decide_eq_decide]; omega))
 obtain ⟨bi, hbi⟩ : ∃ b, L1.inB (s.size : Int) 1 8 = b := ⟨_, rfl⟩
 rw [hbi] at HI HS
 have HB0 := Lib.hid hbi
 clear hbi
 cases bi with
 | false =>
  replace HS := Lib.hid (HS.out rfl)
  go_enter Try.func44, Try.ntmps44
  go_wp2_with (go_at_call 72; refine (HI.out _).mono ?_; rintro e w1 ⟨rfl, rfl⟩)
  go_ret
  exact ⟨by rw [HS.out]; rfl, rfl⟩
 | true =>
  go_enter Try.func44, Try.ntmps44
  go_wp2_with (go_at_call 72; refine (HI.out _).mono ?_; rintro e w1 ⟨rfl, rfl⟩)
  go_loop [10] (fun i => ∃ k : Nat, k ≤ s.size ∧ i = .int .i64 k ∧ Hid (∀ j (hj : j < s.data.toList.length), j < k → low s.data.toList[j] = true)) (fun i => s.size - (intOf i).toNat)
  case atStart => exact ⟨0, Nat.zero_le _, rfl, fun j hj h => by omega⟩
  case round =>
   obtain ⟨k, hk, rfl, hrel⟩ := hrel
   by_cases hlt : k < s.size
   ·
    have hb : s.data.toList[k]? = some s[k] := by
     rw [List.getElem?_eq_getElem (by rw [HZ.out]; exact hlt)]
     rfl
    have HB := Lib.hid hb
    clear hb
    have H1 := Lib.hid (fun w => L4.isLetter_any s[k] w)
    obtain ⟨bl, hbl⟩ : ∃ b, L4.isLet s[k] = b := ⟨_, rfl⟩
    rw [hbl] at H1
    rw [low_isLet] at hbl
    have HL := Lib.hid hbl
    clear hbl
    cases bl with
    | true =>
     go_wp2_with (go_at_call 73; refine (H1.out _).mono ?_; rintro e w1 ⟨rfl, rfl⟩)
     go_round
     case rel => exact ⟨k + 1, by omega, by go_num, fun j hj h => by
       by_cases e : j < k
       ·
        exact hrel.out j hj e
       ·
        obtain rfl : j = k := by omega
        have := HB.out
        rw [List.getElem?_eq_getElem hj] at this
        rw [Option.some.inj this]
        exact HL.out⟩
     case measure => simp [intOf]; omega
    | false =>
     go_wp2_with (go_at_call 73; refine (H1.out _).mono ?_; rintro e w1 ⟨rfl, rfl⟩)
     go_ret
     exact ⟨by rw [isN_no k _ HB.out HL.out]; rfl, rfl⟩
   ·
    go_wp2_with fail
    go_ret
    obtain rfl : k = s.size := by omega
    have e1 := isN_all (fun j hj => hrel.out j hj (by rw [HZ.out] at hj; exact hj))
    rw [HZ.out, HB0.out] at e1
    exact ⟨by rw [e1]; rfl, rfl⟩

end Go.Proofs.Ythiidcflpgbogaa.L5

set_option linter.unusedSimpArgs false
namespace Go.Proofs.Ythiidcflpgbogaa.L5
open Go.Op (bytesLess)
open L4 (boxR push_box box_at)
open Go.ChangeShapes Go.WideShapes Go.ChangeAt Go.RowKit Mem Sl Ex L2 Sv

theorem isR_long {l : List F} (h : ¬ l.length ≤ 6) : isR l = false := by
 unfold isR
 rw [Bool.and_eq_false_iff]
 exact .inr (decide_eq_false h)
theorem Row.two {w : World} {g : Nat} {t : TypeId} {x y : Value} (h : Row w g t #[x, y]) : w.cell? ⟨g, 0, none⟩ = some x ∧ w.cell? ⟨g, 1, none⟩ = some y := ⟨by rw [h.cell]; rfl, by rw [h.cell]; rfl⟩
set_option maxHeartbeats 4000000 in
theorem isRecord_any (a : Option Addr) (c : Nat) (l : List F) (hl : l.length ≤ 1099511627776) (hsm : Small l) (w : World) (hr : Reads w w.heap.size a (cellsF l)) :
  Calls Try.prog 45 #[.agg #[.slice a l.length c]] w fun e w' => e = .returned (.bool (isR l)) ∧ Below w.heap.size w w' := by
 have HR := Lib.hid (fun w' (h : Below w.heap.size w w') => hr.below h)
 obtain ⟨n, hn⟩ : ∃ n, n = l.length := ⟨_, rfl⟩
 rw [← hn]
 rw [← hn] at hl
 have HN := Lib.hid hn
 have HS := Lib.hid hsm
 clear hn hr hsm
 have hl' : (n : Int) ≤ 1099511627776 := by omega
 have S1 := Lib.hid (push_box (Sep.start w) 34 #[.slice a n c] w.heap.size rfl)
 obtain ⟨W1, hW1⟩ : ∃ u, u = w.alloc (.cells #[.slice a n c] 34) := ⟨_, rfl⟩
 rw [← hW1] at S1
 go_enter Try.func45, Try.ntmps45
 go_upto_region 1 with fail
 rw [← hW1]
 clear hW1
 obtain ⟨r0, r1⟩ := Row.one (box_at S1.out 0 rfl)
 by_cases h6 : (n : Int) ≤ 6
 rotate_left
 ·
  have HX := Lib.hid (isR_long (l := l) (by have := HN.out; omega))
  have h6' : (6 : Int) < (n : Int) := by omega
  go_wp2_with fail
  go_ret
  exact ⟨by rw [HX.out]; rfl, S1.out.old⟩
 go_wp2_with fail
 go_loopw [12] (fun i wr => ∃ k : Nat, k ≤ n ∧ i = .int .i64 k ∧ Hid (okTo l k ∧ Sep w wr [boxR w.heap.size 34 #[.slice a n c]])) (fun i _ => n - (intOf i).toNat)
 case atStart => exact ⟨0, Nat.zero_le _, rfl, fun j hj h => by omega, S1.out⟩
 case round =>
  obtain ⟨k, hk, rfl, hrel⟩ := hrel
  clear r0 r1
  by_cases hlt : (k : Int) < (n : Int)
  ·
   have hkl : k < l.length := by have := HN.out; omega
   have HRr := Lib.hid (HR.out _ hrel.out.2.old)
   obtain ⟨ad, rfl, had, h1, h2⟩ := readsF HRr.out k hkl
   have HNm := Lib.hid (fun w => isName_any l[k].name (HS.out _ (List.getElem_mem hkl)) w)
   have HI := Lib.hid (fun w => L1.inRange_any l[k].n 0 1000000000 w)
   obtain ⟨bn, hbn⟩ : ∃ b, isN l[k].name.data.toList = b := ⟨_, rfl⟩
   obtain ⟨bi, hbi⟩ : ∃ b, L1.inB l[k].n 0 1000000000 = b := ⟨_, rfl⟩
   have HO := Lib.hid (show okF l[k] = (bn && bi) by unfold okF; rw [hbi]; unfold F.t; rw [hbn])
   rw [hbn] at HNm
   rw [hbi] at HI
   obtain ⟨t, ht⟩ : ∃ t, t = l[k].name := ⟨_, rfl⟩
   obtain ⟨m, hm⟩ : ∃ m, m = l[k].n := ⟨_, rfl⟩
   rw [← ht] at h1 HNm
   rw [← hm] at h2 HI
   clear hbn hbi hm
   have HT := Lib.hid ht
   clear ht
   have S2 := Lib.hid (push_box hrel.out.2 92 #[.string t, .int .i64 m] wr.heap.size rfl)
   obtain ⟨W2, hW2⟩ : ∃ u, u = wr.alloc (.cells #[.string t, .int .i64 m] 92) := ⟨_, rfl⟩
   rw [← hW2] at S2
   have S3 := Lib.hid (S2.out.drews 1)
   have S4 := Lib.hid (sep_sub S3.out (ts := [boxR w.heap.size 34 #[.slice (some ad) n c]]) id (fun i r h => by match i, h with | 0, h => exact h) (fun i j _ _ h => h))
   rcases Nat.eq_zero_or_pos k with rfl | hk0
   ·
    rw [Nat.zero_mul, show ad.add 0 = ad by simp [Addr.add]] at h1 h2
    go_upto_region 6 with fail
    rw [← hW2]
    clear hW2
    obtain ⟨r0, r1⟩ := Row.one (box_at S2.out 0 rfl)
    obtain ⟨q0, q1⟩ := Row.two (box_at S2.out 1 rfl)
    by_cases hb : (bn && bi) = true
    ·
     simp only [Bool.and_eq_true] at hb
     obtain ⟨rfl, rfl⟩ := hb
     have HOt := Lib.hid (show okF l[0] = true from HO.out)
     clear HO
     go_upto_region 8 with (first | (go_at_call 44; refine (HNm.out _).mono ?_; rintro e w1 ⟨rfl, rfl⟩) | (go_at_call 72; refine (HI.out _).mono ?_; rintro e w1 ⟨rfl, rfl⟩))
     refine wp_region_held_drew (S := (fun w' => w'.cell? ⟨w.heap.size, 0, none⟩ = some (.slice (some ad) n c) ∧ w'.cell? ⟨wr.heap.size, 0, none⟩ = some (.string t))) (by kernel_rfl) ⟨r0, q0⟩ (fun hS => ?_)
     refine tk 0 rfl ?_
     try simp only [zp0, zp1, zp2, zp3, zp4]
     refine tk 1 rfl ?_
     try simp only [zp0, zp1, zp2, zp3, zp4]
     refine tk 2 rfl ?_
     try simp only [zp0, zp1, zp2, zp3, zp4]
     refine sk 3 rfl ?_
     try simp only [zp0, zp1, zp2, zp3, zp4]
     refine sk 4 rfl ?_
     try simp only [zp0, zp1, zp2, zp3, zp4]
     refine sk 5 rfl ?_
     try simp only [zp0, zp1, zp2, zp3, zp4]
     refine sk 6 rfl ?_
     try simp only [zp0, zp1, zp2, zp3, zp4]
     refine sk 7 rfl ?_
     try simp only [zp0, zp1, zp2, zp3, zp4]
     refine sk 8 rfl ?_
     try simp only [zp0, zp1, zp2, zp3, zp4]
     refine sk 9 rfl ?_
     try simp only [zp0, zp1, zp2, zp3, zp4]
     refine sk 10 rfl ?_
     try simp only [zp0, zp1, zp2, zp3, zp4]
     refine sk 11 rfl ?_
     try simp only [zp0, zp1, zp2, zp3, zp4]
     refine sk 12 rfl ?_
     try simp only [zp0, zp1, zp2, zp3, zp4]
     refine tk 13 rfl ?_
     try simp only [zp0, zp1, zp2, zp3, zp4]
     refine wpAnyH_done (by kernel_rfl) ?_ _
     go_wp2_with fail
     go_roundw
     case rel => exact ⟨1, by omega, by go_num, fun j hj h => by
       obtain rfl : j = 0 := by omega
       exact ⟨HOt.out, fun h0 => by omega⟩, S4.out⟩
     case measure => simp [intOf]; omega
    ·
     have HX := Lib.hid (isR_no 0 hkl (.inl (by rw [HO.out]; simpa using hb)))
     rcases (show bn = false ∨ (bn = true ∧ bi = false) by cases bn <;> simp_all) with rfl | ⟨rfl, rfl⟩
     all_goals
      clear hb HO
      go_wp2_with (first | (go_at_call 44; refine (HNm.out _).mono ?_; rintro e w1 ⟨rfl, rfl⟩) | (go_at_call 72; refine (HI.out _).mono ?_; rintro e w1 ⟨rfl, rfl⟩))
      go_ret
      exact ⟨by rw [HX.out]; rfl, S2.out.old⟩
   ·
    obtain ⟨j, rfl⟩ : ∃ j, k = j + 1 := ⟨k - 1, by omega⟩
    go_upto_region 6 with fail
    rw [← hW2]
    clear hW2
    obtain ⟨r0, r1⟩ := Row.one (box_at S2.out 0 rfl)
    obtain ⟨q0, q1⟩ := Row.two (box_at S2.out 1 rfl)
    by_cases hb : (bn && bi) = true
    ·
     simp only [Bool.and_eq_true] at hb
     obtain ⟨rfl, rfl⟩ := hb
     have HOt := Lib.hid (show okF l[j + 1] = true from HO.out)
     clear HO
     obtain ⟨ad', e', -, h3, -⟩ := readsF (HR.out _ S2.out.old) j (by omega)
     injection e' with e'
     subst e'
     obtain ⟨p, hp⟩ : ∃ p, p = (l[j]'(by omega)).name := ⟨_, rfl⟩
     rw [← hp] at h3
     have hwj : IntKind.i64.wrap (j : Int) = (j : Int) := IntWalk.i64_in _ ⟨by omega, by omega⟩
     have k1 : (0 : Int) ≤ (j : Int) + 1 := by omega
     have k2 : (j : Int) + 1 < (n : Int) := by omega
     have k3 : (0 : Int) ≤ (j : Int) := by omega
     have k4 : (j : Int) < (n : Int) := by omega
     have hge := string_geq
     obtain ⟨bo, hbo⟩ : ∃ b, bytesLess p.toList t.toList = b := ⟨_, rfl⟩
     have HB := Lib.hid (show bytesLess (l[j]'(by omega)).t l[j + 1].t = bo by unfold F.t; rw [← hp, ← HT.out, ← hbo, ByteArray.toList_eq, ByteArray.toList_eq])
     clear hp
     cases bo with
     | false =>
      have HX := Lib.hid (isR_no (j + 1) hkl (.inr ⟨Nat.succ_pos j, HB.out⟩))
      go_upto_region 8 with (first | (go_at_call 44; refine (HNm.out _).mono ?_; rintro e w1 ⟨rfl, rfl⟩) | (go_at_call 72; refine (HI.out _).mono ?_; rintro e w1 ⟨rfl, rfl⟩))
      refine wp_region_held_drew (S := (fun w' => w'.cell? ⟨w.heap.size, 0, none⟩ = some (.slice (some ad) n c) ∧ w'.cell? ⟨wr.heap.size, 0, none⟩ = some (.string t) ∧ w'.cell? (ad.add (j * 2)) = some (.string p))) (by kernel_rfl) ⟨r0, q0, h3⟩ (fun hS => ?_)
      refine tk 0 rfl ?_
      try simp only [zp0, zp1, zp2, zp3, zp4]
      refine tk 1 rfl ?_
      try simp only [zp0, zp1, zp2, zp3, zp4]
      refine tk 2 rfl ?_
      try simp only [zp0, zp1, zp2, zp3, zp4]
      refine tk 3 rfl ?_
      try simp only [zp0, zp1, zp2, zp3, zp4]
      refine tk 4 rfl ?_
      try simp only [zp0, zp1, zp2, zp3, zp4]
      refine tk 5 rfl ?_
      try simp only [zp0, zp1, zp2, zp3, zp4]
      refine tk 6 rfl ?_
      try simp only [zp0, zp1, zp2, zp3, zp4]
      refine tk 7 rfl ?_
      try simp only [zp0, zp1, zp2, zp3, zp4]
      refine tk 8 rfl ?_
      try simp only [zp0, zp1, zp2, zp3, zp4]
      refine tk 9 rfl ?_
      try simp only [zp0, zp1, zp2, zp3, zp4]
      refine tk 10 rfl ?_
      try simp only [zp0, zp1, zp2, zp3, zp4]
      refine tk 11 rfl ?_
      try simp only [zp0, zp1, zp2, zp3, zp4]
      refine tk 12 rfl ?_
      try simp only [zp0, zp1, zp2, zp3, zp4]
      refine tk 13 rfl ?_
      try simp only [zp0, zp1, zp2, zp3, zp4]
      refine wpAnyH_done (by kernel_rfl) ?_ _
      go_wp2_with fail
      go_ret
      exact ⟨by rw [HX.out]; rfl, S4.out.old⟩
     | true =>
      go_upto_region 8 with (first | (go_at_call 44; refine (HNm.out _).mono ?_; rintro e w1 ⟨rfl, rfl⟩) | (go_at_call 72; refine (HI.out _).mono ?_; rintro e w1 ⟨rfl, rfl⟩))
      refine wp_region_held_drew (S := (fun w' => w'.cell? ⟨w.heap.size, 0, none⟩ = some (.slice (some ad) n c) ∧ w'.cell? ⟨wr.heap.size, 0, none⟩ = some (.string t) ∧ w'.cell? (ad.add (j * 2)) = some (.string p))) (by kernel_rfl) ⟨r0, q0, h3⟩ (fun hS => ?_)
      refine tk 0 rfl ?_
      try simp only [zp0, zp1, zp2, zp3, zp4]
      refine tk 1 rfl ?_
      try simp only [zp0, zp1, zp2, zp3, zp4]
      refine tk 2 rfl ?_
      try simp only [zp0, zp1, zp2, zp3, zp4]
      refine tk 3 rfl ?_
      try simp only [zp0, zp1, zp2, zp3, zp4]
      refine tk 4 rfl ?_
      try simp only [zp0, zp1, zp2, zp3, zp4]
      refine tk 5 rfl ?_
      try simp only [zp0, zp1, zp2, zp3, zp4]
      refine tk 6 rfl ?_
      try simp only [zp0, zp1, zp2, zp3, zp4]
      refine tk 7 rfl ?_
      try simp only [zp0, zp1, zp2, zp3, zp4]
      refine tk 8 rfl ?_
      try simp only [zp0, zp1, zp2, zp3, zp4]
      refine tk 9 rfl ?_
      try simp only [zp0, zp1, zp2, zp3, zp4]
      refine tk 10 rfl ?_
      try simp only [zp0, zp1, zp2, zp3, zp4]
      refine tk 11 rfl ?_
      try simp only [zp0, zp1, zp2, zp3, zp4]
      refine tk 12 rfl ?_
      try simp only [zp0, zp1, zp2, zp3, zp4]
      refine tk 13 rfl ?_
      try simp only [zp0, zp1, zp2, zp3, zp4]
      refine wpAnyH_done (by kernel_rfl) ?_ _
      go_wp2_with fail
      go_roundw
      case rel => exact ⟨j + 1 + 1, by omega, by go_num, fun q hq h => by
       by_cases e : q < j + 1
       ·
        exact hrel.out.1 q hq e
       ·
        obtain rfl : q = j + 1 := by omega
        exact ⟨HOt.out, fun _ => HB.out⟩, S4.out⟩
      case measure => simp [intOf]; omega
    ·
     have HX := Lib.hid (isR_no (j + 1) hkl (.inl (by rw [HO.out]; simpa using hb)))
     rcases (show bn = false ∨ (bn = true ∧ bi = false) by cases bn <;> simp_all) with rfl | ⟨rfl, rfl⟩
     all_goals
      clear hb HO
      go_wp2_with (first | (go_at_call 44; refine (HNm.out _).mono ?_; rintro e w1 ⟨rfl, rfl⟩) | (go_at_call 72; refine (HI.out _).mono ?_; rintro e w1 ⟨rfl, rfl⟩))
      go_ret
      exact ⟨by rw [HX.out]; rfl, S2.out.old⟩
  ·
   go_wp2_with fail
   go_ret
   exact ⟨by rw [isR_iff.2 ⟨fun j hj _ => hrel.out.1 j hj (by have := HN.out; omega), by have := HN.out; omega⟩]; rfl, hrel.out.2.old⟩
end Go.Proofs.Ythiidcflpgbogaa.L5

