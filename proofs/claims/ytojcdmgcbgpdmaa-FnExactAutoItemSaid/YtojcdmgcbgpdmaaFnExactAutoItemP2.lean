/-
  What the law FnExactAutoItem needs, laid by my program lawpack.py, part 2: the texts Rst, L6Lb, Sh, L6Sb, L5Dm, L5Rd, L6Se, L6Sf, L6Sg, L5Cp, Vg, VField, VRecord, VItem, CeItem, L6Ia, L6Ib, L4Im0, L5Ia, L5Ib, L4Im2, L4Im1, L4Im3, L4Arr, one behind the other; each begins with its own words.
-/
import Derived.Test.YtojcdmgcbgpdmaaFnExactAutoItemP1
set_option linter.unusedSimpArgs false
set_option linter.unusedVariables false
set_option maxRecDepth 100000
namespace Go.Proofs.Ytojcdmgcbgpdmaa.Run
open Go.ChangeShapes Go.WideShapes Go.ChangeAt Go.RowKit Mem Sl Sv Bag

theorem over_mid (A C vs old : List Value) (o : Nat) (h : A.length = o) (hv : vs.length = old.length) : over (A ++ (old ++ C)) o vs = A ++ (vs ++ C) := by
 rw [over_at _ _ _ _ h (by rw [List.length_append]; omega), hv, List.drop_left]
section
variable {W w w0 w' : World} {rs : List Res} {e : TypeId} {k c n g : Nat} {xs : List Value}
def restL (W w0 : World) (fps : List Nat) : Res where
 fp := (List.range w0.heap.size).filter fun b => decide (W.heap.size ≤ b) && decide (b ∉ fps)
 is w := ∀ b, b < w0.heap.size → W.heap.size ≤ b → b ∉ fps → w.heap[b]? = w0.heap[b]?
 loc := fun hs h b h1 h2 h3 => (hs b (List.mem_filter.2 ⟨List.mem_range.2 h1, by simp [h2, h3]⟩)).trans (h b h1 h2 h3)
theorem restL_start {r : Res} (h : Sep W w rs) (i : Nat) (hi : rs[i]? = some r) : Sep W w [r, restL W w r.fp] := by
 have rst : ∀ b, b ∈ (restL W w r.fp).fp → b ∉ r.fp := fun b hb => by
  obtain ⟨_, h2⟩ := List.mem_filter.1 hb
  simp only [Bool.and_eq_true, decide_eq_true_eq] at h2
  exact h2.2
 refine ⟨h.old, fun j s hj => ?_, fun j s hj b hb => ?_, fun j q s t hj hq hne b hb hb2 => ?_⟩
 ·
  rcases j with _ | _ | j
  ·
   simp at hj; subst hj; exact h.is i _ hi
  ·
   simp at hj; subst hj; exact fun b _ _ _ => rfl
  ·
   simp at hj
 ·
  rcases j with _ | _ | j
  ·
   simp at hj; subst hj; exact h.lies i _ hi b hb
  ·
   simp at hj; subst hj
   obtain ⟨h1, h2⟩ := List.mem_filter.1 hb
   simp only [Bool.and_eq_true, decide_eq_true_eq] at h2
   exact ⟨h2.1, List.mem_range.1 h1⟩
  ·
   simp at hj
 ·
  rcases j with _ | _ | j <;> rcases q with _ | _ | q
  ·
   exact hne rfl
  ·
   simp at hj hq; subst hj; subst hq; exact rst b hb2 hb
  ·
   simp at hq
  ·
   simp at hj hq; subst hj; subst hq; exact rst b hb hb2
  ·
   exact hne rfl
  ·
   simp at hq
  ·
   simp at hj
  ·
   simp at hj
  ·
   simp at hj
theorem restL_turned {r : Res} {fps : List Nat} (h0 : Below W.heap.size W w0) (h : Sep W w' [r, restL W w0 fps]) (hfp : ∀ b ∈ fps, b ∈ r.fp) : Turned fps w0 w' := by
 have key : ∀ b, b < w0.heap.size → b ∉ fps → w'.heap[b]? = w0.heap[b]? := fun b hb hn => by
  rcases Nat.lt_or_ge b W.heap.size with h1 | h1
  ·
   exact (h.old.block b h1).trans (h0.block b h1).symm
  ·
   exact (h.is 1 (restL W w0 fps) rfl) b hb h1 hn
 refine ⟨h.old.os.trans h0.os.symm, h.old.tape.trans h0.tape.symm, h.old.output.trans h0.output.symm, ?_, key⟩
 rcases Nat.eq_zero_or_pos w0.heap.size with h1 | h1
 ·
  omega
 ·
  by_cases e1 : w0.heap.size - 1 ∈ fps
  ·
   have h2 := (h.lies 0 _ rfl _ (hfp _ e1)).2
   omega
  ·
   have h2 := key (w0.heap.size - 1) (by omega) e1
   have h3 := (Array.getElem?_eq_some_iff.1 (h2.trans (Array.getElem?_eq_getElem (show w0.heap.size - 1 < w0.heap.size by omega)))).1
   omega
theorem restL_back {r r' : Res} (h : Sep W w rs) (i : Nat) (hi : rs[i]? = some r) (h' : Sep W w' [r', restL W w r.fp]) (hfp : r'.fp = r.fp) : Sep W w' (rs.set i r') :=
 h.put i hi (restL_turned h.old h' (fun b hb => by rw [hfp]; exact hb)) (h'.is 0 _ rfl) (fun b hb => by rw [← hfp]; exact hb)
def allR (rs : List Res) : Res where
 fp := rs.flatMap Res.fp
 is w := (∀ (i : Nat) (r : Res), rs[i]? = some r → r.is w) ∧ ∀ (i j : Nat) (r s : Res), rs[i]? = some r → rs[j]? = some s → i ≠ j → ∀ b ∈ r.fp, b ∉ s.fp
 loc := fun hs h => ⟨fun i r hi => r.loc (fun b hb => hs b (List.mem_flatMap.2 ⟨r, List.mem_of_getElem? hi, hb⟩)) (h.1 i r hi), h.2⟩
theorem packR {us vs : List Res} (h : Sep W w (us ++ vs)) : Sep W w (us ++ [allR vs]) := by
 have at1 : ∀ (i : Nat) (r : Res), vs[i]? = some r → (us ++ vs)[us.length + i]? = some r := fun i r hi => by
  rw [List.getElem?_append_right (by omega), Nat.add_sub_cancel_left]; exact hi
 have key : ∀ (i : Nat) (r : Res), (us ++ [allR vs])[i]? = some r → (i < us.length ∧ (us ++ vs)[i]? = some r) ∨ (i = us.length ∧ r = allR vs) := fun i r hi => by
  rcases Nat.lt_trichotomy i us.length with h1 | h1 | h1
  ·
   rw [List.getElem?_append_left h1] at hi
   exact .inl ⟨h1, by rw [List.getElem?_append_left h1]; exact hi⟩
  ·
   rw [List.getElem?_append_right (by omega), h1, Nat.sub_self] at hi
   simp at hi
   exact .inr ⟨h1, hi.symm⟩
  ·
   rw [List.getElem?_eq_none (by simp; omega)] at hi
   cases hi
 refine ⟨h.old, fun i r hi => ?_, fun i r hi b hb => ?_, fun i j r s hi hj hne b hb hb2 => ?_⟩
 ·
  rcases key i r hi with ⟨_, h1⟩ | ⟨_, rfl⟩
  ·
   exact h.is i r h1
  ·
   exact ⟨fun j s hj => h.is _ s (at1 j s hj), fun j q s t hj hq hne => h.apart _ _ s t (at1 j s hj) (at1 q t hq) (by omega)⟩
 ·
  rcases key i r hi with ⟨_, h1⟩ | ⟨_, rfl⟩
  ·
   exact h.lies i r h1 b hb
  ·
   obtain ⟨s, hs, hb⟩ := List.mem_flatMap.1 hb
   obtain ⟨j, hj⟩ := List.getElem?_of_mem hs
   exact h.lies _ s (at1 j s hj) b hb
 ·
  rcases key i r hi with ⟨l1, h1⟩ | ⟨l1, rfl⟩ <;> rcases key j s hj with ⟨l2, h2⟩ | ⟨l2, rfl⟩
  ·
   exact h.apart i j r s h1 h2 hne b hb hb2
  ·
   obtain ⟨t, ht, hb2⟩ := List.mem_flatMap.1 hb2
   obtain ⟨q, hq⟩ := List.getElem?_of_mem ht
   exact h.apart i _ r t h1 (at1 q t hq) (by omega) b hb hb2
  ·
   obtain ⟨t, ht, hb⟩ := List.mem_flatMap.1 hb
   obtain ⟨q, hq⟩ := List.getElem?_of_mem ht
   exact h.apart _ j t s (at1 q t hq) h2 (by omega) b hb hb2
  ·
   omega
theorem unpackR {us vs : List Res} (h : Sep W w (us ++ [allR vs])) : Sep W w (us ++ vs) := by
 have hl : (us ++ [allR vs])[us.length]? = some (allR vs) := by simp
 have hall : (allR vs).is w := h.is us.length _ hl
 have key : ∀ (i : Nat) (r : Res), (us ++ vs)[i]? = some r → (i < us.length ∧ (us ++ [allR vs])[i]? = some r) ∨ (us.length ≤ i ∧ vs[i - us.length]? = some r) := fun i r hi => by
  rcases Nat.lt_or_ge i us.length with h1 | h1
  ·
   rw [List.getElem?_append_left h1] at hi
   exact .inl ⟨h1, by rw [List.getElem?_append_left h1]; exact hi⟩
  ·
   rw [List.getElem?_append_right h1] at hi
   exact .inr ⟨h1, hi⟩
 have inb : ∀ (i : Nat) (r : Res), vs[i]? = some r → ∀ b ∈ r.fp, b ∈ (allR vs).fp := fun i r hi b hb => List.mem_flatMap.2 ⟨r, List.mem_of_getElem? hi, hb⟩
 refine ⟨h.old, fun i r hi => ?_, fun i r hi b hb => ?_, fun i j r s hi hj hne b hb hb2 => ?_⟩
 ·
  rcases key i r hi with ⟨_, h1⟩ | ⟨_, h1⟩
  ·
   exact h.is i r h1
  ·
   exact hall.1 _ r h1
 ·
  rcases key i r hi with ⟨_, h1⟩ | ⟨_, h1⟩
  ·
   exact h.lies i r h1 b hb
  ·
   exact h.lies _ _ hl b (inb _ r h1 b hb)
 ·
  rcases key i r hi with ⟨l1, h1⟩ | ⟨l1, h1⟩ <;> rcases key j s hj with ⟨l2, h2⟩ | ⟨l2, h2⟩
  ·
   exact h.apart i j r s h1 h2 hne b hb hb2
  ·
   exact h.apart i _ r _ h1 hl (by omega) b hb (inb _ s h2 b hb2)
  ·
   exact h.apart _ j _ s hl h2 (by omega) b (inb _ r h1 b hb) hb2
  ·
   exact hall.2 _ _ r s h1 h2 (by omega) b hb hb2
end
end Go.Proofs.Ytojcdmgcbgpdmaa.Run

set_option linter.unusedSimpArgs false
namespace Go.Proofs.Ytojcdmgcbgpdmaa.L6
open L4 (K isK cmpK R inR encU)
open L5 (F isR isN cellsF encR eqR Small Wide markT marksF marksF_length)
open Go.ChangeShapes Go.WideShapes Go.ChangeAt Go.RowKit Mem Sl Ex L2 Sv Bag

theorem con_at {xs : List LI} {k : Nat} {x : LI} (hx : xs[k]? = some x) : (conI xs)[k]? = some x.con := by unfold conI; rw [List.getElem?_map, hx]; rfl
theorem con_same {xs ys : List LI} (h : conI xs = conI ys) {k : Nat} {x : LI} (hx : xs[k]? = some x) : ∃ a c, ys[k]? = some ⟨x.k, a, c, x.l⟩ := by
 have h1 := con_at hx
 rw [h] at h1
 unfold conI at h1
 rw [List.getElem?_map, Option.map_eq_some_iff] at h1
 obtain ⟨y, hy, he⟩ := h1
 obtain ⟨k2, a, c, l2⟩ := y
 unfold LI.con at he
 simp only [It.mk.injEq] at he
 obtain ⟨rfl, rfl⟩ := he
 exact ⟨a, c, hy⟩

set_option maxHeartbeats 4000000 in
theorem eqItem_any (kd n : Int) (t : ByteArray) (ia ia2 : Option Addr) (ic ic2 : Nat) (l : List F) (hl : l.length ≤ 1048576) (w : World) (hr : Reads w w.heap.size ia (cellsF l)) (hr2 : Reads w w.heap.size ia2 (cellsF l)) :
  Calls Try.prog 183 #[.agg #[.int .i64 kd, .int .i64 n, .string t, .slice ia l.length ic], .agg #[.int .i64 kd, .int .i64 n, .string t, .slice ia2 l.length ic2]] w fun e w' => e = .returned (.bool true) ∧ Below w.heap.size w w' := by
 have HER := Lib.hid (fun w' (h : Below w.heap.size w w') => L5.eqRecord_any ia ia2 ic ic2 l (by omega) w' ((hr.below h).more h.size) ((hr2.below h).more h.size))
 have HEK := Lib.hid (fun w' => L4.eqKey_any ⟨kd, n, t⟩ w')
 unfold L4.K.v at HEK
 obtain ⟨N, hN⟩ : ∃ n, n = l.length := ⟨_, rfl⟩
 rw [← hN] at HER ⊢
 clear hN hr hr2 hl
 have S1 := Lib.hid (show Sl.Sep w _ [_, _] from L4.push_box (L4.push_box (Sl.Sep.start w) 40 #[.int .i64 kd, .int .i64 n, .string t, .slice ia N ic] (w.heap.size) (by simp)) 40 #[.int .i64 kd, .int .i64 n, .string t, .slice ia2 N ic2] (w.heap.size + 1) (by simp))
 obtain ⟨wa, hwa⟩ : ∃ u, u = ((w.alloc (.cells #[.int .i64 kd, .int .i64 n, .string t, .slice ia N ic] 40)).alloc (.cells #[.int .i64 kd, .int .i64 n, .string t, .slice ia2 N ic2] 40)) := ⟨_, rfl⟩
 rw [← hwa] at S1
 go_enter Try.func183, Try.ntmps183
 go_upto_region 1 with fail
 rw [← hwa]
 clear hwa
 obtain ⟨f0, f1, f2, f3⟩ := Bag.cs4 S1.out 0 rfl
 obtain ⟨f4, f5, f6, f7⟩ := Bag.cs4 S1.out 1 rfl
 go_wp2_with fail
 go_at_call 46
 refine (HEK.out _).mono ?_
 rintro e w1 ⟨rfl, hb⟩
 clear f0 f1 f2 f3 f4 f5 f6 f7
 have S2 := Lib.hid (S1.out.keep hb)
 clear S1
 clear hb
 obtain ⟨f0, f1, f2, f3⟩ := Bag.cs4 S2.out 0 rfl
 obtain ⟨f4, f5, f6, f7⟩ := Bag.cs4 S2.out 1 rfl
 go_wp2_with fail
 go_at_call 41
 refine (HER.out _ S2.out.old).mono ?_
 rintro e w2 ⟨rfl, hb⟩
 clear f0 f1 f2 f3 f4 f5 f6 f7
 have S3 := Lib.hid (S2.out.keep hb)
 clear S2
 clear hb
 obtain ⟨f0, f1, f2, f3⟩ := Bag.cs4 S3.out 0 rfl
 obtain ⟨f4, f5, f6, f7⟩ := Bag.cs4 S3.out 1 rfl
 go_wp2_with fail
 go_ret
 exact ⟨rfl, S3.out.old⟩
set_option maxHeartbeats 4000000 in
theorem eqItemS_any (a a2 : Option Addr) (c c2 : Nat) (xs xs2 : List LI) (hc : conI xs = conI xs2) (hl : xs.length ≤ 1048576) (hf : ∀ x ∈ conI xs, FitI x) (w : World) (hr : Reads w w.heap.size a (cellsI xs)) (hx : RowsRd w w.heap.size (rowsI xs)) (hr2 : Reads w w.heap.size a2 (cellsI xs2)) (hx2 : RowsRd w w.heap.size (rowsI xs2)) :
  Calls Try.prog 118 #[.slice a xs.length c, .slice a2 xs2.length c2] w fun e w' => e = .returned (.bool true) ∧ Below w.heap.size w w' := by
 have HR := Lib.hid (fun w' (h : Below w.heap.size w w') => hr.below h)
 have HR2 := Lib.hid (fun w' (h : Below w.heap.size w w') => hr2.below h)
 have HX := Lib.hid (fun w' (h : Below w.heap.size w w') => (hx.below h).more h.size)
 have HX2 := Lib.hid (fun w' (h : Below w.heap.size w w') => (hx2.below h).more h.size)
 have HF := Lib.hid hf
 have HS := Lib.hid hc
 have hlen : xs2.length = xs.length := by have h := congrArg List.length hc; simp only [conI_length] at h; exact h.symm
 obtain ⟨N, hN⟩ : ∃ n, n = xs.length := ⟨_, rfl⟩
 rw [hlen, ← hN]
 rw [← hN] at hl
 have hl' : (N : Int) ≤ 1048576 := by omega
 have HN := Lib.hid hN
 clear hN hr hr2 hx hx2 hf hc hlen
 have S1 := Lib.hid (show Sl.Sep w w [] from Sl.Sep.start w)
 go_enter Try.func118, Try.ntmps118
 go_wp2_with fail
 go_loopw [5] (fun i wr => ∃ k : Nat, k ≤ N ∧ i = .int .i64 k ∧ Hid (Sl.Sep w wr [])) (fun i _ => N - (intOf i).toNat)
 case atStart => exact ⟨0, Nat.zero_le _, rfl, S1.out⟩
 case round =>
  obtain ⟨k, hk, rfl, hrel⟩ := hrel
  have S2 := Lib.hid hrel.out
  clear hrel S1
  by_cases hlt : (k : Int) < (N : Int)
  ·
   skip
   have hkl : k < xs.length := by have := HN.out; omega
   obtain ⟨ad, x, rfl, hx⟩ := readsI_some (HR.out _ S2.out.old) k hkl
   obtain ⟨⟨kd, n, t⟩, ia, ic, l⟩ := x
   obtain ⟨ia2, ic2, hx2⟩ := con_same HS.out hx
   try dsimp only at hx2
   obtain ⟨ad2, x_, rfl, hx_⟩ := readsI_some (HR2.out _ S2.out.old) k (List.getElem?_eq_some_iff.1 hx2).1
   clear hx_ x_
   have HK := Lib.hid (fun w' (h : Below w.heap.size w w') => readsI_at (HR.out _ h) k _ hx)
   have HK2 := Lib.hid (fun w' (h : Below w.heap.size w w') => readsI_at (HR2.out _ h) k _ hx2)
   try dsimp only at HK HK2
   have HEQ := Lib.hid (fun w' (h : Below w.heap.size w w') => eqItem_any kd n t ia ia2 ic ic2 l (fit_at HF.out hx).len w' (((HX.out _ h).at_ (rowsI_mem hx)).reads) (((HX2.out _ h).at_ (rowsI_mem hx2)).reads))
   clear hx hx2
   go_upto_region 6 with fail
   refine wp_region_held_drew (S := (fun w' => (w'.cell? (ad.add (k * 4)) = some (.int .i64 kd) ∧ w'.cell? (⟨(ad.add (k * 4)).block, (ad.add (k * 4)).off + 1, none⟩) = some (.int .i64 n) ∧ w'.cell? (⟨(ad.add (k * 4)).block, (ad.add (k * 4)).off + 2, none⟩) = some (.string t) ∧ w'.cell? (⟨(ad.add (k * 4)).block, (ad.add (k * 4)).off + 3, none⟩) = some (.slice ia l.length ic)) ∧ (w'.cell? (ad2.add (k * 4)) = some (.int .i64 kd) ∧ w'.cell? (⟨(ad2.add (k * 4)).block, (ad2.add (k * 4)).off + 1, none⟩) = some (.int .i64 n) ∧ w'.cell? (⟨(ad2.add (k * 4)).block, (ad2.add (k * 4)).off + 2, none⟩) = some (.string t) ∧ w'.cell? (⟨(ad2.add (k * 4)).block, (ad2.add (k * 4)).off + 3, none⟩) = some (.slice ia2 l.length ic2)))) (by kernel_rfl) ⟨HK.out _ (Bag.drew1 S2.out).old, HK2.out _ (Bag.drew1 S2.out).old⟩ (fun hS => ?_)
   have S3 := Lib.hid (Bag.drew1 S2.out)
   clear S2
   generalize World.drew _ = w1 at hS S3 ⊢
   refine tk 0 rfl ?_
   try simp only [zp0, zp1, zp2, zp3, zp4]
   refine tk 1 rfl ?_
   try simp only [zp0, zp1, zp2, zp3, zp4]
   refine tk 2 rfl ?_
   try simp only [zp0, zp1, zp2, zp3, zp4]
   refine tk 3 rfl ?_
   try simp only [zp0, zp1, zp2, zp3, zp4]
   refine tk 4 rfl ?_
   try simp only [zp0, zp1, zp2, zp3, zp4]
   refine tk 5 rfl ?_
   try simp only [zp0, zp1, zp2, zp3, zp4]
   refine tk 6 rfl ?_
   try simp only [zp0, zp1, zp2, zp3, zp4]
   refine tk 7 rfl ?_
   try simp only [zp0, zp1, zp2, zp3, zp4]
   refine Reg.one_op (i := 8) rfl (by kernel_rfl) (fun K hK => ?_)
   go_simp
   go_at_call 183
   refine (HEQ.out _ S3.out.old).mono ?_
   rintro e w2 ⟨rfl, hb⟩
   have S4 := Lib.hid (S3.out.keep hb)
   clear S3
   clear hb
   go_wp2_with fail
   refine hK.out _ _ ⟨HK.out _ S4.out.old, HK2.out _ S4.out.old⟩ (fun hS => ?_)
   clear hK K
   try simp only [zp0, zp1, zp2, zp3, zp4]
   refine tk 9 rfl ?_
   try simp only [zp0, zp1, zp2, zp3, zp4]
   refine wpAnyH_done (by kernel_rfl) ?_ _
   obtain ⟨f0, f1, f2, f3⟩ := HK.out _ S4.out.old
   obtain ⟨f4, f5, f6, f7⟩ := HK2.out _ S4.out.old
   go_wp2_with fail
   go_roundw
   case rel => exact ⟨k + 1, by omega, by go_num, S4.out⟩
   case measure => simp [intOf]; omega
  ·
   skip
   go_wp2_with fail
   go_ret
   exact ⟨rfl, S2.out.old⟩
set_option maxHeartbeats 4000000 in
theorem eqStore_any (y y2 : LS) (hc : y.con = y2.con) (hf : FitS y.con) (w : World) (hr : RowsRd w w.heap.size y.rows) (hr2 : RowsRd w w.heap.size y2.rows) :
  Calls Try.prog 40 #[y.v, y2.v] w fun e w' => e = .returned (.bool true) ∧ Below w.heap.size w w' := by
 have HEI := Lib.hid (fun w' (h : Below w.heap.size w w') => eqItemS_any y.a y2.a y.c y2.c y.xs y2.xs (by have h1 := congrArg S6.items hc; exact h1) (by have h1 := hf.len; simpa [LS.con] using h1) hf.items w' (((LS.outer hr).below h).more h.size) (((LS.inner hr).below h).more h.size) (((LS.outer hr2).below h).more h.size) (((LS.inner hr2).below h).more h.size))
 obtain ⟨name, a, c, xs, auto⟩ := y
 obtain ⟨name2, a2, c2, xs2, auto2⟩ := y2
 unfold LS.con at hc
 simp only [S6.mk.injEq] at hc
 obtain ⟨rfl, hi, rfl⟩ := hc
 have hlen : xs2.length = xs.length := by have h := congrArg List.length hi; simp only [conI_length] at h; exact h.symm
 unfold LS.v LS.cells
 dsimp only at HEI ⊢
 rw [hlen] at HEI ⊢
 obtain ⟨N, hN⟩ : ∃ n, n = xs.length := ⟨_, rfl⟩
 rw [← hN] at HEI ⊢
 clear hN hlen hi hr hr2 hf
 have S1 := Lib.hid (show Sl.Sep w _ [_, _] from L4.push_box (L4.push_box (Sl.Sep.start w) 26 #[.string name, .slice a N c, .int .i64 auto] (w.heap.size) (by simp)) 26 #[.string name, .slice a2 N c2, .int .i64 auto] (w.heap.size + 1) (by simp))
 obtain ⟨wa, hwa⟩ : ∃ u, u = ((w.alloc (.cells #[.string name, .slice a N c, .int .i64 auto] 26)).alloc (.cells #[.string name, .slice a2 N c2, .int .i64 auto] 26)) := ⟨_, rfl⟩
 rw [← hwa] at S1
 go_enter Try.func40, Try.ntmps40
 go_upto_region 1 with fail
 rw [← hwa]
 clear hwa
 obtain ⟨f0, f1, f2⟩ := Bag.cs3 S1.out 0 rfl
 obtain ⟨f3, f4, f5⟩ := Bag.cs3 S1.out 1 rfl
 go_wp2_with fail
 go_at_call 118
 refine (HEI.out _ S1.out.old).mono ?_
 rintro e w1 ⟨rfl, hb⟩
 clear f0 f1 f2 f3 f4 f5
 have S2 := Lib.hid (S1.out.keep hb)
 clear S1
 clear hb
 obtain ⟨f0, f1, f2⟩ := Bag.cs3 S2.out 0 rfl
 obtain ⟨f3, f4, f5⟩ := Bag.cs3 S2.out 1 rfl
 go_wp2_with fail
 go_ret
 exact ⟨rfl, S2.out.old⟩
def mark1 (k : Int) (x : LI) : LI := ⟨⟨k, k + 1, markT (k + 2)⟩, x.a, x.c, marksF (k + 3) x.l.length⟩
def markI : Int → List LI → List LI
 | _, [] => []
 | k, x :: xs => mark1 k x :: markI (k + 3 + 2 * (x.l.length : Int)) xs
def endI : Int → List LI → Int
 | k, [] => k
 | k, x :: xs => endI (k + 3 + 2 * (x.l.length : Int)) xs
theorem markI_length : ∀ (k : Int) (xs : List LI), (markI k xs).length = xs.length
 | _, [] => rfl
 | k, x :: xs => by unfold markI; rw [List.length_cons, List.length_cons, markI_length]
theorem endI_snoc : ∀ (k : Int) (xs : List LI) (x : LI), endI k (xs ++ [x]) = endI k xs + 3 + 2 * (x.l.length : Int)
 | _, [], _ => rfl
 | k, y :: xs, x => endI_snoc _ xs x
theorem markI_snoc : ∀ (k : Int) (xs : List LI) (x : LI), markI k (xs ++ [x]) = markI k xs ++ [mark1 (endI k xs) x]
 | _, [], _ => rfl
 | k, y :: xs, x => by
  show mark1 k y :: markI _ (xs ++ [x]) = _
  rw [markI_snoc _ xs x]
  rfl
theorem mark1_fp (k : Int) (x : LI) : (mark1 k x).row.fp = x.row.fp := by
 unfold mark1 LI.row RowS.fp
 cases x.a <;> rfl
theorem markI_fp : ∀ (k : Int) (xs : List LI), (rowsI (markI k xs)).flatMap RowS.fp = (rowsI xs).flatMap RowS.fp
 | _, [] => rfl
 | k, x :: xs => by
  show ((mark1 k x).row :: rowsI (markI _ xs)).flatMap RowS.fp = (x.row :: rowsI xs).flatMap RowS.fp
  rw [List.flatMap_cons, List.flatMap_cons, mark1_fp, markI_fp _ xs]
theorem markB_fp (a : Option Addr) (c : Nat) (k : Int) (xs : List LI) : (bag (rowI a c (markI k xs) :: rowsI (markI k xs))).fp = (bag (rowI a c xs :: rowsI xs)).fp := by
 show (rowI a c (markI k xs) :: rowsI (markI k xs)).flatMap RowS.fp = (rowI a c xs :: rowsI xs).flatMap RowS.fp
 rw [List.flatMap_cons, List.flatMap_cons, markI_fp]
 congr 1
 unfold rowI RowS.fp
 cases a <;> rfl
theorem endI_range : ∀ (xs : List LI) (k : Int), (∀ x ∈ xs, x.l.length ≤ 1048576) → k ≤ endI k xs ∧ endI k xs ≤ k + (xs.length : Int) * 2097155
 | [], k, _ => by simp [endI]
 | x :: xs, k, h => by
  have h1 := endI_range xs (k + 3 + 2 * (x.l.length : Int)) (fun y hy => h y (List.mem_cons_of_mem _ hy))
  have h2 := h x (List.mem_cons_self ..)
  unfold endI
  rw [List.length_cons]
  omega
theorem markI_at {xs : List LI} {j : Nat} {x : LI} (k : Int) (hx : xs[j]? = some x) : (markI k xs)[j]? = some (mark1 (endI k (xs.take j)) x) := by
 obtain ⟨hj, rfl⟩ := List.getElem?_eq_some_iff.1 hx
 have e : ∀ (ys zs : List LI) (k : Int), markI k (ys ++ zs) = markI k ys ++ markI (endI k ys) zs := by
  intro ys
  induction ys with
  | nil => intro zs k; rfl
  | cons y ys ih => intro zs k; show mark1 k y :: markI _ (ys ++ zs) = _; rw [ih]; rfl
 have h2 : xs = xs.take j ++ (xs[j] :: xs.drop (j + 1)) := by rw [List.getElem_cons_drop, List.take_append_drop]
 have h3 : (xs.take j).length = j := by rw [List.length_take]; omega
 have h4 : ∀ zs, zs = xs.take j ++ (xs[j] :: xs.drop (j + 1)) → (markI k zs)[j]? = some (mark1 (endI k (xs.take j)) xs[j]) := fun zs hz => by
  rw [hz, e, List.getElem?_append_right (by rw [markI_length, h3]; exact Nat.le_refl _), markI_length, h3, Nat.sub_self]
  rfl
 exact h4 xs h2
theorem end_next {xs : List LI} {j : Nat} {x : LI} (k : Int) (hx : xs[j]? = some x) : endI k (xs.take (j + 1)) = endI k (xs.take j) + 3 + 2 * (x.l.length : Int) := by
 obtain ⟨hj, rfl⟩ := List.getElem?_eq_some_iff.1 hx
 rw [List.take_succ_eq_append_getElem hj, endI_snoc]
theorem mark_next {xs : List LI} {j : Nat} {x : LI} (k : Int) (hx : xs[j]? = some x) : markI k (xs.take (j + 1)) = markI k (xs.take j) ++ [mark1 (endI k (xs.take j)) x] := by
 obtain ⟨hj, rfl⟩ := List.getElem?_eq_some_iff.1 hx
 rw [List.take_succ_eq_append_getElem hj, markI_snoc]
theorem row_last (ds es : List LI) (x : LI) : (rowsI ds ++ rowsI (x :: es)).Perm ((rowsI ds ++ rowsI es) ++ [x.row]) := by
 show (rowsI ds ++ (x.row :: rowsI es)).Perm _
 rw [List.append_assoc]
 exact List.Perm.append_left _ (List.perm_append_comm (l₁ := [x.row]))
theorem row_back (ds es : List LI) (z : LI) : ((rowsI ds ++ rowsI es) ++ [z.row]).Perm (rowsI (ds ++ [z]) ++ rowsI es) := by
 rw [rowsI_append, List.append_assoc, List.append_assoc]
 exact List.Perm.append_left _ List.perm_append_comm
set_option maxHeartbeats 8000000 in
theorem markItemS_sep (a : Option Addr) (c : Nat) (xs : List LI) (k : Int) (W w : World) (S : Sl.Sep W w [bag (rowI a c xs :: rowsI xs), Run.restL W w (bag (rowI a c xs :: rowsI xs)).fp]) (hl : xs.length ≤ 1048576) (hlen : ∀ x ∈ xs, x.l.length ≤ 1048576) (hk0 : 0 < k) (hk1 : k ≤ 1099511627776) :
  Calls Try.prog 120 #[.slice a xs.length c, .int .i64 k] w fun e w' => e = .returned (.int .i64 (endI k xs)) ∧ Sl.Sep W w' [bag (rowI a c (markI k xs) :: rowsI (markI k xs)), Run.restL W w (bag (rowI a c xs :: rowsI xs)).fp] := by
 have HLEN := Lib.hid hlen
 obtain ⟨fps, hfps⟩ : ∃ f, f = (bag (rowI a c xs :: rowsI xs)).fp := ⟨_, rfl⟩
 rw [← hfps] at S ⊢
 clear hfps
 rcases (S.is 0 _ rfl).own (rowI a c xs) (List.mem_cons_self ..) |>.form with ⟨ha, hn0, -, hc0⟩ | ⟨g, hg, -, -, hnc, -⟩
 ·
  have ha' : a = none := ha
  have hc' : c = 0 := hc0
  have hx : xs = [] := List.eq_nil_of_length_eq_zero hn0
  subst hx
  have H := Lib.hid S
  clear S
  go_enter Try.func120, Try.ntmps120
  go_wp2_with fail
  refine wp_loop_rounds 1 ?_
  rw [rounds_succ]
  go_wp2_with fail
  go_ret
  exact ⟨rfl, H.out⟩
 have hg' : a = some ⟨g, 0, none⟩ := hg
 subst hg'
 obtain ⟨N, hN⟩ : ∃ n, n = xs.length := ⟨_, rfl⟩
 rw [← hN] at hl ⊢
 have hl' : (N : Int) ≤ 1048576 := by omega
 have HN := Lib.hid hN
 have HK1 := Lib.hid hk1
 have S1 := Lib.hid S
 clear hg hN S hnc hlen
 have S2 := Lib.hid (show Sl.Sep W _ [Bag.bag ([rowI (some ⟨g, 0, none⟩) c xs] ++ rowsI xs), Run.restL W w fps] from S1.out)
 clear S1
 have S3 := Lib.hid (show Sl.Sep W _ [Bag.bag ([rowI (some ⟨g, 0, none⟩) c xs]), _, Bag.bag (rowsI xs)] from Bag.bag_split S2.out 0 rfl)
 clear S2
 have S4 := Lib.hid (show Sl.Sep W _ [Sv.ownV 40 4 (some ⟨g, 0, none⟩) c N (cellsI (markI k [] ++ xs.drop 0)), _, _] from (by have h := Bag.one_of_bag S3.out 0 (r := rowI (some ⟨g, 0, none⟩) c xs) rfl; unfold RowS.res rowI at h; dsimp only at h; rw [← HN.out] at h; exact h))
 clear S3
 have S5 := Lib.hid (show Sl.Sep W _ [_, Bag.bag (rowsI (markI k []) ++ rowsI (xs.drop 0)), _] from Bag.take S4.out [0, 2, 1] (by rfl) (by decide))
 clear S4
 go_enter Try.func120, Try.ntmps120
 go_wp2_with fail
 go_loopw [1, 5] (fun v i wr => ∃ (j : Nat) (m : Int), j ≤ N ∧ i = .int .i64 j ∧ v = .int .i64 m ∧ k ≤ m ∧ m ≤ k + (j : Int) * 2097155 ∧ Hid (m = endI k (xs.take j) ∧ Sl.Sep W wr [Sv.ownV 40 4 (some ⟨g, 0, none⟩) c N (cellsI (markI k (xs.take j) ++ xs.drop j)), Bag.bag (rowsI (markI k (xs.take j)) ++ rowsI (xs.drop j)), Run.restL W w fps])) (fun _ i _ => N - (intOf i).toNat)
 case atStart => exact ⟨0, k, Nat.zero_le _, rfl, rfl, by omega, by omega, And.intro rfl S5.out⟩
 case round =>
  obtain ⟨j, m, hj, rfl, rfl, hm0, hm1, hrel⟩ := hrel
  have HM := Lib.hid hrel.out.1
  have S6 := Lib.hid hrel.out.2
  clear hrel S5
  by_cases hlt : (j : Int) < (N : Int)
  ·
   skip
   have hjl : j < xs.length := by have := HN.out; omega
   obtain ⟨x, hx⟩ : ∃ x, xs[j]? = some x := ⟨_, List.getElem?_eq_getElem hjl⟩
   have HXL := Lib.hid (HLEN.out x (List.mem_of_getElem? hx))
   have HEN := Lib.hid (end_next k hx)
   have HMN := Lib.hid (mark_next k hx)
   have HDR := Lib.hid (show xs.drop j = x :: xs.drop (j + 1) from by obtain ⟨h1, rfl⟩ := List.getElem?_eq_some_iff.1 hx; exact (List.getElem_cons_drop ..).symm)
   clear hx
   obtain ⟨⟨kd, n, t⟩, ia, ic, l⟩ := x
   dsimp only at HXL HEN
   rw [← HM.out] at HEN HMN
   have hxl : (l.length : Int) ≤ 1048576 := by have := HXL.out; omega
   have hmb : m ≤ 4611686018427387904 - 2097155 := by have := HK1.out; omega
   have HDL := Lib.hid (show (cellsI (markI k (xs.take j))).length = j * 4 by rw [cellsI_length, markI_length, List.length_take]; omega)
   have HDE := Lib.hid (show (rowsI (markI k (xs.take j)) ++ rowsI (xs.drop j)).Perm ((rowsI (markI k (xs.take j)) ++ rowsI (xs.drop (j + 1))) ++ [(LI.mk ⟨kd, n, t⟩ ia ic l).row]) from by rw [HDR.out]; exact row_last _ _ _)
   obtain ⟨R0, hR0⟩ : ∃ R0, R0 = cellsI (xs.drop (j + 1)) := ⟨_, rfl⟩
   obtain ⟨D0, hD0⟩ : ∃ D0, D0 = cellsI (markI k (xs.take j)) := ⟨_, rfl⟩
   have HR0 := Lib.hid hR0
   have HD0 := Lib.hid hD0
   rw [← hD0] at HDL
   clear hR0 hD0
   have S7 := Lib.hid (show Sl.Sep W _ [Sv.ownV 40 4 (some ⟨g, 0, none⟩) c N (D0 ++ (.int .i64 kd :: .int .i64 n :: .string t :: .slice ia l.length ic :: R0)), Bag.bag (rowsI (markI k (xs.take j)) ++ rowsI (xs.drop j)), Run.restL W w fps] from (by have h := S6.out; rw [show cellsI (markI k (xs.take j) ++ xs.drop j) = D0 ++ (.int .i64 kd :: .int .i64 n :: .string t :: .slice ia l.length ic :: R0) from by rw [cellsI_append, HDR.out, cellsI_cons, ← HR0.out, ← HD0.out]] at h; exact h))
   clear S6
   have q0 := (Sv.own_at S7.out 0 rfl).cell (j * 4) (by rw [List.length_append, HDL.out]; simp <;> omega)
   have z0 := (Sv.own_at S7.out 0 rfl).free (j * 4)
   have q1 := (Sv.own_at S7.out 0 rfl).cell (j * 4 + 1) (by rw [List.length_append, HDL.out]; simp <;> omega)
   have z1 := (Sv.own_at S7.out 0 rfl).free (j * 4 + 1)
   go_wp2_with fail
   clear q0 z0 q1 z1
   have HOV := Lib.hid (show Run.over (D0 ++ (.int .i64 kd :: .int .i64 n :: .string t :: .slice ia l.length ic :: R0)) (j * 4) [.int .i64 m, .int .i64 (m + 1)] = D0 ++ (.int .i64 m :: .int .i64 (m + 1) :: .string t :: .slice ia l.length ic :: R0) from by rw [show D0 ++ (.int .i64 kd :: .int .i64 n :: .string t :: .slice ia l.length ic :: R0) = D0 ++ ([.int .i64 kd, .int .i64 n] ++ (.string t :: .slice ia l.length ic :: R0)) from by simp, Run.over_mid D0 (.string t :: .slice ia l.length ic :: R0) [.int .i64 m, .int .i64 (m + 1)] [.int .i64 kd, .int .i64 n] (j * 4) (by simp [HDL.out]) rfl]; simp)
   have S8 := Lib.hid (show Sl.Sep W ((wr.setCell ⟨g, j * 4, none⟩ (.int .i64 m)).setCell ⟨g, j * 4 + 1, none⟩ (.int .i64 (m + 1))) [Sv.ownV 40 4 (some ⟨g, 0, none⟩) c N (D0 ++ (.int .i64 m :: .int .i64 (m + 1) :: .string t :: .slice ia l.length ic :: R0)), _, _] from (by have h := Run.put_run S7.out 0 rfl (j * 4) [.int .i64 m, .int .i64 (m + 1)] (by rw [List.length_append, HDL.out]; simp <;> omega); rw [HOV.out] at h; exact h))
   clear S7
   clear HOV
   have HMT := Lib.hid (fun w' => L5.markText_any (m + 2) (by omega) (by omega) w')
   have e2 : m + 1 + 1 = m + 2 := by omega
   try simp only [e2]
   go_at_call 129
   refine (HMT.out _).mono ?_
   rintro e w1 ⟨rfl, hb⟩
   have S9 := Lib.hid (S8.out.keep hb)
   clear S8
   clear hb
   have q2 := (Sv.own_at S9.out 0 rfl).cell (j * 4 + 2) (by rw [List.length_append, HDL.out]; simp <;> omega)
   have z2 := (Sv.own_at S9.out 0 rfl).free (j * 4 + 2)
   go_upto_region 9 with fail
   clear q2 z2
   have HOV := Lib.hid (show Run.over (D0 ++ (.int .i64 m :: .int .i64 (m + 1) :: .string t :: .slice ia l.length ic :: R0)) (j * 4 + 2) [.string (markT (m + 2))] = D0 ++ (.int .i64 m :: .int .i64 (m + 1) :: .string (markT (m + 2)) :: .slice ia l.length ic :: R0) from by rw [show D0 ++ (.int .i64 m :: .int .i64 (m + 1) :: .string t :: .slice ia l.length ic :: R0) = (D0 ++ ([.int .i64 m, .int .i64 (m + 1)] : List Value)) ++ ([.string t] ++ (.slice ia l.length ic :: R0)) from by simp, Run.over_mid (D0 ++ ([.int .i64 m, .int .i64 (m + 1)] : List Value)) (.slice ia l.length ic :: R0) [.string (markT (m + 2))] [.string t] (j * 4 + 2) (by simp [HDL.out]) rfl]; simp)
   have S10 := Lib.hid (show Sl.Sep W (w1.setCell ⟨g, j * 4 + 2, none⟩ (.string (markT (m + 2)))) [Sv.ownV 40 4 (some ⟨g, 0, none⟩) c N (D0 ++ (.int .i64 m :: .int .i64 (m + 1) :: .string (markT (m + 2)) :: .slice ia l.length ic :: R0)), Bag.bag (rowsI (markI k (xs.take j)) ++ rowsI (xs.drop j)), Run.restL W w fps] from (by have h := Run.put_run S9.out 0 rfl (j * 4 + 2) [.string (markT (m + 2))] (by rw [List.length_append, HDL.out]; simp <;> omega); rw [HOV.out] at h; exact h))
   clear S9
   clear HOV
   have e3 : m + 2 + 1 = m + 3 := by omega
   have q3 : World.cell? (w1.setCell ⟨g, j * 4 + 2, none⟩ (.string (markT (m + 2)))) ⟨g, j * 4 + 3, none⟩ = some (.slice ia l.length ic) := by rw [(Sv.own_at S10.out 0 rfl).cell (j * 4 + 3) (by rw [List.length_append, HDL.out]; simp <;> omega)]; simp [List.getElem_append, HDL.out]
   have S11 := Lib.hid (show Sl.Sep W _ [Sv.ownV 40 4 (some ⟨g, 0, none⟩) c N (D0 ++ (.int .i64 m :: .int .i64 (m + 1) :: .string (markT (m + 2)) :: .slice ia l.length ic :: R0)), Bag.bag ((rowsI (markI k (xs.take j)) ++ rowsI (xs.drop (j + 1))) ++ [(LI.mk ⟨kd, n, t⟩ ia ic l).row]), Run.restL W w fps] from Bag.bag_perm S10.out 1 rfl HDE.out)
   clear S10
   have S12 := Lib.hid (show Sl.Sep W _ [_, Bag.bag (rowsI (markI k (xs.take j)) ++ rowsI (xs.drop (j + 1))), _, Bag.bag ([(LI.mk ⟨kd, n, t⟩ ia ic l).row])] from Bag.bag_split S11.out 1 rfl)
   clear S11
   have S13 := Lib.hid (show Sl.Sep W _ [_, _, _, Sv.ownV 128 2 ia ic l.length (cellsF l)] from Bag.one_of_bag S12.out 3 (r := (LI.mk ⟨kd, n, t⟩ ia ic l).row) rfl)
   clear S12
   go_wp2_with fail
   try simp only [e2, e3]
   go_at_call 121
   refine (L5.markFieldS_any ia ic l (m + 3) _ (Sv.own_at S13.out 3 rfl) (by omega) (by omega) (by omega)).mono ?_
   rintro e w7 ⟨rfl, ho, ht⟩
   clear q3
   have S14 := Lib.hid (show Sl.Sep W _ [_, _, _, Sv.ownV 128 2 ia ic l.length (cellsF (marksF (m + 3) l.length))] from S13.out.put 3 rfl ht ho (fun b hb => hb))
   clear S13
   clear ho ht
   have S15 := Lib.hid (show Sl.Sep W _ [_, _, _, Bag.bag ([(mark1 m (LI.mk ⟨kd, n, t⟩ ia ic l)).row])] from Bag.bag_of_one S14.out 3 (r := (mark1 m (LI.mk ⟨kd, n, t⟩ ia ic l)).row) (by unfold RowS.res LI.row mark1; dsimp only; rw [marksF_length]; rfl))
   clear S14
   have S16 := Lib.hid (show Sl.Sep W _ [_, Bag.bag ((rowsI (markI k (xs.take j)) ++ rowsI (xs.drop (j + 1))) ++ ([(mark1 m (LI.mk ⟨kd, n, t⟩ ia ic l)).row])), _, Bag.bag ([])] from Bag.bag_join S15.out 1 3 (by decide) rfl rfl)
   clear S15
   have S17 := Lib.hid (show Sl.Sep W _ [Sv.ownV 40 4 (some ⟨g, 0, none⟩) c N (D0 ++ (.int .i64 m :: .int .i64 (m + 1) :: .string (markT (m + 2)) :: .slice ia l.length ic :: R0)), Bag.bag (rowsI (markI k (xs.take (j + 1))) ++ rowsI (xs.drop (j + 1))), Run.restL W w fps, Bag.bag ([])] from (by rw [HMN.out]; exact Bag.bag_perm S16.out 1 rfl (row_back _ _ _)))
   clear S16
   have S18 := Lib.hid (show Sl.Sep W _ [_, _, _] from Bag.take S17.out [0, 1, 2] (by rfl) (by decide))
   clear S17
   have HROW := Lib.hid (show cellsI (markI k (xs.take (j + 1)) ++ xs.drop (j + 1)) = D0 ++ (.int .i64 m :: .int .i64 (m + 1) :: .string (markT (m + 2)) :: .slice ia l.length ic :: R0) from by rw [HMN.out, cellsI_append, cellsI_append, ← HR0.out, ← HD0.out, List.append_assoc]; show D0 ++ (.int .i64 m :: .int .i64 (m + 1) :: .string (markT (m + 2)) :: .slice ia (marksF (m + 3) l.length).length ic :: R0) = _; rw [marksF_length])
   have S19 := Lib.hid (show Sl.Sep W _ [Sv.ownV 40 4 (some ⟨g, 0, none⟩) c N (cellsI (markI k (xs.take (j + 1)) ++ xs.drop (j + 1))), _, _] from (by rw [HROW.out]; exact S18.out))
   clear S18
   go_wp2_with fail
   go_roundw
   case rel => exact ⟨j + 1, m + 3 + 2 * (l.length : Int), by omega, by go_num, by first | rfl | go_num, by omega, by omega, And.intro HEN.out.symm S19.out⟩
   case measure => simp [intOf]; omega
  ·
   skip
   obtain rfl : j = N := by omega
   have hT : xs.take j = xs := List.take_of_length_le (by have := HN.out; omega)
   have hD : xs.drop j = [] := List.drop_of_length_le (by have := HN.out; omega)
   have HT := Lib.hid hT
   have HD := Lib.hid hD
   clear hT hD
   have S7 := Lib.hid (show Sl.Sep W _ [Sv.ownV 40 4 (some ⟨g, 0, none⟩) c j (cellsI (markI k xs)), Bag.bag (rowsI (markI k xs)), Run.restL W w fps] from (by have h := S6.out; rw [HT.out, HD.out, List.append_nil, show rowsI (markI k xs) ++ rowsI [] = rowsI (markI k xs) from List.append_nil _] at h; exact h))
   clear S6
   have S8 := Lib.hid (show Sl.Sep W _ [Bag.bag ([rowI (some ⟨g, 0, none⟩) c (markI k xs)]), _, _] from Bag.bag_of_one S7.out 0 (r := rowI (some ⟨g, 0, none⟩) c (markI k xs)) (by unfold RowS.res rowI; dsimp only; rw [markI_length, ← HN.out]; rfl))
   clear S7
   have S9 := Lib.hid (show Sl.Sep W _ [Bag.bag ([rowI (some ⟨g, 0, none⟩) c (markI k xs)] ++ (rowsI (markI k xs))), Bag.bag ([]), _] from Bag.bag_join S8.out 0 1 (by decide) rfl rfl)
   clear S8
   have S10 := Lib.hid (show Sl.Sep W _ [_, _] from Bag.take S9.out [0, 2] (by rfl) (by decide))
   clear S9
   go_wp2_with fail
   go_ret
   exact ⟨by rw [← HT.out, ← HM.out]; rfl, S10.out⟩
theorem markItemS_any {W w : World} {rs : List Res} (h : Sl.Sep W w rs) (i : Nat) {a : Option Addr} {c : Nat} {xs : List LI} (hi : rs[i]? = some (bag (rowI a c xs :: rowsI xs))) (k : Int) (hl : xs.length ≤ 1048576) (hlen : ∀ x ∈ xs, x.l.length ≤ 1048576) (hk0 : 0 < k) (hk1 : k ≤ 1099511627776) :
  Calls Try.prog 120 #[.slice a xs.length c, .int .i64 k] w fun e w' => e = .returned (.int .i64 (endI k xs)) ∧ Sl.Sep W w' (rs.set i (bag (rowI a c (markI k xs) :: rowsI (markI k xs)))) :=
 (markItemS_sep a c xs k W w (Run.restL_start h i hi) hl hlen hk0 hk1).mono fun _ _ ⟨he, hs⟩ => ⟨he, Run.restL_back h i hi hs (markB_fp a c k xs)⟩
def LS.marked (k : Int) (y : LS) : LS := ⟨y.name, y.a, y.c, markI k y.xs, y.auto⟩
set_option maxHeartbeats 1000000 in
theorem markStore_any {W w : World} {rs : List Res} (h : Sl.Sep W w rs) (i : Nat) {y : LS} (hi : rs[i]? = some (bag y.rows)) (k : Int) (hf : FitS y.con) (hk0 : 0 < k) (hk1 : k ≤ 1099511627776) :
  Calls Try.prog 42 #[y.v, .int .i64 k] w fun e w' => e = .returned (.int .i64 (endI k y.xs)) ∧ Sl.Sep W w' (rs.set i (bag (LS.marked k y).rows)) := by
 have HC := Lib.hid (fun o => markItemS_any (h.alloc o) i hi k (by have h1 := hf.len; simpa [LS.con] using h1) (fun x hx => (hf.items x.con (List.mem_map.2 ⟨x, hx, rfl⟩)).len) hk0 hk1)
 obtain ⟨name, a, c, xs, auto⟩ := y
 unfold LS.v LS.cells
 dsimp only at HC ⊢
 obtain ⟨N, hN⟩ : ∃ n, n = xs.length := ⟨_, rfl⟩
 rw [← hN] at HC ⊢
 clear hN hf
 go_enter Try.func42, Try.ntmps42
 go_wp2_with (go_at_call 120; refine (HC.out _).mono ?_; rintro e w2 ⟨rfl, ho⟩; have HO := Lib.hid ho; clear ho)
 go_ret
 exact ⟨rfl, HO.out⟩
set_option maxHeartbeats 4000000 in
theorem heldItemS_any (a : Option Addr) (c : Nat) (xs : List LI) (k : Int) (hl : xs.length ≤ 1048576) (hlen : ∀ x ∈ xs, x.l.length ≤ 1048576) (hk0 : 0 < k) (hk1 : k ≤ 1099511627776) (w : World) (hr : Reads w w.heap.size a (cellsI (markI k xs))) (hx : RowsRd w w.heap.size (rowsI (markI k xs))) :
  Calls Try.prog 122 #[.slice a xs.length c, .int .i64 k] w fun e w' => e = .returned (.int .i64 (endI k xs)) ∧ Below w.heap.size w w' := by
 have HR := Lib.hid (fun w' (h : Below w.heap.size w w') => hr.below h)
 have HX := Lib.hid (fun w' (h : Below w.heap.size w w') => (hx.below h).more h.size)
 have HLEN := Lib.hid hlen
 obtain ⟨N, hN⟩ : ∃ n, n = xs.length := ⟨_, rfl⟩
 rw [← hN] at hl ⊢
 have hl' : (N : Int) ≤ 1048576 := by omega
 have HN := Lib.hid hN
 have HK1 := Lib.hid hk1
 clear hN hr hx hlen
 have S1 := Lib.hid (show Sl.Sep w w [] from Sl.Sep.start w)
 go_enter Try.func122, Try.ntmps122
 go_wp2_with fail
 go_loopw [1, 5] (fun v i wr => ∃ (j : Nat) (m : Int), j ≤ N ∧ i = .int .i64 j ∧ v = .int .i64 m ∧ k ≤ m ∧ m ≤ k + (j : Int) * 2097155 ∧ Hid (m = endI k (xs.take j) ∧ Sl.Sep w wr [])) (fun _ i _ => N - (intOf i).toNat)
 case atStart => exact ⟨0, k, Nat.zero_le _, rfl, rfl, by omega, by omega, And.intro rfl S1.out⟩
 case round =>
  obtain ⟨j, m, hj, rfl, rfl, hm0, hm1, hrel⟩ := hrel
  have HM := Lib.hid hrel.out.1
  have S2 := Lib.hid hrel.out.2
  clear hrel S1
  by_cases hlt : (j : Int) < (N : Int)
  ·
   skip
   have hjl : j < xs.length := by have := HN.out; omega
   obtain ⟨x, hx⟩ : ∃ x, xs[j]? = some x := ⟨_, List.getElem?_eq_getElem hjl⟩
   have HXL := Lib.hid (HLEN.out x (List.mem_of_getElem? hx))
   have HEN := Lib.hid (end_next k hx)
   have hmx := markI_at k hx
   rw [← HM.out] at hmx HEN
   clear hx
   obtain ⟨⟨kd, n, t⟩, ia, ic, l⟩ := x
   dsimp only at HXL HEN
   obtain ⟨ad, x_, rfl, hx_⟩ := readsI_some (HR.out _ S2.out.old) j (List.getElem?_eq_some_iff.1 hmx).1
   clear hx_ x_
   have HK := Lib.hid (fun w' (h : Below w.heap.size w w') => readsI_at (HR.out _ h) j _ hmx)
   unfold mark1 at HK
   dsimp only at HK
   have HHF := Lib.hid (fun w' (h : Below w.heap.size w w') => L5.heldFieldS_any ia ic l.length (m + 3) w' (((HX.out _ h).at_ (rowsI_mem hmx)).reads) (by have := HXL.out; omega) (by omega) (by have := HK1.out; omega))
   have hxl : (l.length : Int) ≤ 1048576 := by have := HXL.out; omega
   have hmb : m ≤ 4611686018427387904 - 2097155 := by have := HK1.out; omega
   obtain ⟨tt, htt⟩ : ∃ t, markT (m + 2) = t := ⟨_, rfl⟩
   have HMT := Lib.hid (fun w' => L5.markText_any (m + 2) (by omega) (by omega) w')
   rw [htt] at HMT HK
   clear htt hmx
   have hML : (marksF (m + 3) l.length).length = l.length := marksF_length _ _
   rw [hML] at HK
   clear hML
   have e2 : m + 1 + 1 = m + 2 := by omega
   have e3 : m + 2 + 1 = m + 3 := by omega
   obtain ⟨f0, f1, f2, f3⟩ := HK.out _ S2.out.old
   go_upto_region 10 with fail
   clear f0 f1 f2 f3
   refine wp_region_held_drew (S := (fun w' => (w'.cell? (ad.add (j * 4)) = some (.int .i64 m) ∧ w'.cell? (⟨(ad.add (j * 4)).block, (ad.add (j * 4)).off + 1, none⟩) = some (.int .i64 (m + 1)) ∧ w'.cell? (⟨(ad.add (j * 4)).block, (ad.add (j * 4)).off + 2, none⟩) = some (.string tt) ∧ w'.cell? (⟨(ad.add (j * 4)).block, (ad.add (j * 4)).off + 3, none⟩) = some (.slice ia l.length ic)))) (by kernel_rfl) (HK.out _ (Bag.drew1 S2.out).old) (fun hS => ?_)
   have S3 := Lib.hid (Bag.drew1 S2.out)
   clear S2
   generalize World.drew _ = w1 at hS S3 ⊢
   refine tk 0 rfl ?_
   try simp only [zp0, zp1, zp2, zp3, zp4]
   refine tk 1 rfl ?_
   try simp only [zp0, zp1, zp2, zp3, zp4]
   refine tk 2 rfl ?_
   try simp only [zp0, zp1, zp2, zp3, zp4]
   refine tk 3 rfl ?_
   try simp only [zp0, zp1, zp2, zp3, zp4]
   refine tk 4 rfl ?_
   try simp only [zp0, zp1, zp2, zp3, zp4]
   refine tk 5 rfl ?_
   try simp only [zp0, zp1, zp2, zp3, zp4]
   refine tk 6 rfl ?_
   try simp only [zp0, zp1, zp2, zp3, zp4]
   refine Reg.one_op (i := 7) rfl (by kernel_rfl) (fun K hK => ?_)
   go_simp
   try simp only [e2]
   go_at_call 129
   refine (HMT.out _).mono ?_
   rintro e w2 ⟨rfl, hb⟩
   have S4 := Lib.hid (S3.out.keep hb)
   clear S3
   clear hb
   go_wp2_with fail
   refine hK.out _ _ (HK.out _ S4.out.old) (fun hS => ?_)
   clear hK K
   try simp only [zp0, zp1, zp2, zp3, zp4]
   refine tk 8 rfl ?_
   try simp only [zp0, zp1, zp2, zp3, zp4]
   refine wpAnyH_done (by kernel_rfl) ?_ _
   obtain ⟨f0, f1, f2, f3⟩ := HK.out _ S4.out.old
   go_wp2_with fail
   try simp only [e2, e3]
   go_at_call 185
   refine (HHF.out _ S4.out.old).mono ?_
   rintro e w3 ⟨rfl, hb⟩
   clear f0 f1 f2 f3
   have S5 := Lib.hid (S4.out.keep hb)
   clear S4
   clear hb
   obtain ⟨f0, f1, f2, f3⟩ := HK.out _ S5.out.old
   have hneg : ¬ (m + 3 + 2 * (l.length : Int) < 0) := by omega
   go_wp2_with fail
   go_roundw
   case rel => exact ⟨j + 1, m + 3 + 2 * (l.length : Int), by omega, by go_num, by first | rfl | go_num, by omega, by omega, And.intro HEN.out.symm S5.out⟩
   case measure => simp [intOf]; omega
  ·
   skip
   obtain rfl : j = N := by omega
   have hT : xs.take j = xs := List.take_of_length_le (by have := HN.out; omega)
   have HT := Lib.hid hT
   clear hT
   go_wp2_with fail
   go_ret
   exact ⟨by have h := HM.out; rw [HT.out] at h; rw [← h]; rfl, S2.out.old⟩
set_option maxHeartbeats 1000000 in
theorem heldStore_any (y : LS) (k : Int) (hf : FitS y.con) (hk0 : 0 < k) (hk1 : k ≤ 1099511627776) (w : World) (hr : RowsRd w w.heap.size (LS.marked k y).rows) :
  Calls Try.prog 44 #[y.v, .int .i64 k] w fun e w' => e = .returned (.int .i64 (endI k y.xs)) ∧ Below w.heap.size w w' := by
 have hn := (endI_range y.xs k (fun x hx => (hf.items x.con (List.mem_map.2 ⟨x, hx, rfl⟩)).len)).1
 have HC := Lib.hid (fun w' (h : Below w.heap.size w w') => heldItemS_any y.a y.c y.xs k (by have h1 := hf.len; simpa [LS.con] using h1) (fun x hx => (hf.items x.con (List.mem_map.2 ⟨x, hx, rfl⟩)).len) hk0 hk1 w' (((LS.outer hr).below h).more h.size) (((LS.inner hr).below h).more h.size))
 have HB := Lib.hid (fun o => below_alloc (Below.refl w.heap.size w) o (Nat.le_refl _))
 obtain ⟨name, a, c, xs, auto⟩ := y
 unfold LS.v LS.cells
 dsimp only at HC hn ⊢
 obtain ⟨N, hN⟩ : ∃ n, n = xs.length := ⟨_, rfl⟩
 obtain ⟨E, hE⟩ : ∃ E, E = endI k xs := ⟨_, rfl⟩
 rw [← hE] at hn
 rw [← hN, ← hE] at HC ⊢
 clear hN hf hr hE
 have hneg : ¬ (E < 0) := by omega
 go_enter Try.func44, Try.ntmps44
 go_wp2_with (go_at_call 122; refine (HC.out _ (HB.out _)).mono ?_; rintro e w2 ⟨rfl, ho⟩; have HO := Lib.hid ho; clear ho)
 go_ret
 exact ⟨rfl, (HB.out _).trans (HO.out.mono (HB.out _).size)⟩
end Go.Proofs.Ytojcdmgcbgpdmaa.L6

namespace Go.Proofs.Ytojcdmgcbgpdmaa
theorem share7 {T : Prop} {a0 a1 a2 a3 a4 a5 a6 : Type} {G : a0 → a1 → a2 → a3 → a4 → a5 → a6 → Prop} (main : (∀ x0 x1 x2 x3 x4 x5 x6, G x0 x1 x2 x3 x4 x5 x6) → T) (pf : ∀ x0 x1 x2 x3 x4 x5 x6, G x0 x1 x2 x3 x4 x5 x6) : T := main pf
end Go.Proofs.Ytojcdmgcbgpdmaa

set_option linter.unusedSimpArgs false
namespace Go.Proofs.Ytojcdmgcbgpdmaa.L6
open L4 (K isK cmpK R inR encU)
open L5 (F isR isN cellsF encR eqR Small)
open Go.ChangeShapes Go.WideShapes Go.ChangeAt Go.RowKit Mem Sl Ex L2 Sv Bag

theorem key_eq (kd n : Int) (s : ByteArray) (kd2 n2 : Int) (s2 : ByteArray) (w : World) :
  (Op.equalIn 10000 28 (.agg #[.int .i64 kd, .int .i64 n, .string s]) (.agg #[.int .i64 kd2, .int .i64 n2, .string s2])).run Try.prog w = .ok (eqK ⟨kd, n, s⟩ ⟨kd2, n2, s2⟩) w := by
 unfold eqK K.t
 rw [← ByteArray.toList_eq, ← ByteArray.toList_eq]
 cases h1 : kd == kd2 <;> cases h2 : n == n2 <;> cases h3 : s.toList == s2.toList <;> simp [go_sem, h1, h2, h3]
set_option maxHeartbeats 2000000 in
theorem specFindItem_any (y : LS) (k0 : K) (hf : FitS y.con) (w : World) (hr : RowsRd w w.heap.size y.rows) :
  Calls Try.prog 88 #[y.v, k0.v] w fun e w' => e = .returned (.int .i64 (fndI y.con.items k0)) ∧ Below w.heap.size w w' := by
 obtain ⟨name, a, c, xs, auto⟩ := y
 have HR := Lib.hid (fun w' (h : Below w.heap.size w w') => LS.outer (hr.below h))
 have HX := Lib.hid (fun w' (h : Below w.heap.size w w') => (LS.inner (hr.below h)).more h.size)
 have HF := Lib.hid hf.items
 have HNM := Lib.hid hf.name
 have hl := hf.len
 simp only [LS.con, conI_length] at hl
 dsimp only [LS.con] at HR HX HF HNM
 try unfold LS.v LS.cells LS.con
 try dsimp only
 obtain ⟨N, hN⟩ : ∃ n, n = xs.length := ⟨_, rfl⟩
 rw [← hN] at hl ⊢
 have hl' : (N : Int) ≤ 1048576 := by omega
 have HN := Lib.hid hN
 clear hN hr hf
 obtain ⟨kd2, n2, t2⟩ := k0
 unfold L4.K.v
 have S1 := Lib.hid (show Sl.Sep w _ [_, _] from L4.push_box (L4.push_box (Sl.Sep.start w) 26 #[.string name, .slice a N c, .int .i64 auto] (w.heap.size) (by simp)) 28 #[.int .i64 kd2, .int .i64 n2, .string t2] (w.heap.size + 1) (by simp))
 obtain ⟨wa, hwa⟩ : ∃ u, u = ((w.alloc (.cells #[.string name, .slice a N c, .int .i64 auto] 26)).alloc (.cells #[.int .i64 kd2, .int .i64 n2, .string t2] 28)) := ⟨_, rfl⟩
 rw [← hwa] at S1
 go_enter Try.func88, Try.ntmps88
 go_upto_region 1 with fail
 rw [← hwa]
 clear hwa
 go_wp2_with fail
 go_loopw [5] (fun i wr => ∃ k : Nat, k ≤ N ∧ i = .int .i64 k ∧ Hid ((∀ j (hj : j < (conI xs).length), j < k → eqK (conI xs)[j].k ⟨kd2, n2, t2⟩ = false) ∧ Sl.Sep w wr [L4.boxR w.heap.size 26 #[.string name, .slice a N c, .int .i64 auto], L4.boxR (w.heap.size + 1) 28 #[.int .i64 kd2, .int .i64 n2, .string t2]])) (fun i _ => N - (intOf i).toNat)
 case atStart => exact ⟨0, Nat.zero_le _, rfl, And.intro (fun j hj h => absurd h (by omega)) S1.out⟩
 case round =>
  obtain ⟨k, hk, rfl, hrel⟩ := hrel
  have HA := Lib.hid hrel.out.1
  have S2 := Lib.hid hrel.out.2
  clear hrel S1
  by_cases hlt : (k : Int) < (N : Int)
  ·
   skip
   have hkl : k < xs.length := by have := HN.out; omega
   obtain ⟨ad, x, rfl, hx⟩ := readsI_some (HR.out _ S2.out.old) k hkl
   obtain ⟨⟨kd, n, t⟩, ia, ic, l⟩ := x
   have HK := Lib.hid (fun w' (h : Below w.heap.size w w') => readsI_at (HR.out _ h) k _ hx)
   try dsimp only at HK
   have HFI := Lib.hid (fit_at HF.out hx)
   try dsimp only [LI.con] at HFI
   have hci : k < (conI xs).length := by rw [conI_length]; exact hkl
   have HC := Lib.hid (show (conI xs)[k] = ⟨⟨kd, n, t⟩, l⟩ by rw [conI_get xs k hkl]; rw [List.getElem?_eq_getElem hkl] at hx; rw [Option.some.inj hx]; rfl)
   clear hx
   obtain ⟨b, hb⟩ : ∃ b, eqK ⟨kd, n, t⟩ ⟨kd2, n2, t2⟩ = b := ⟨_, rfl⟩
   have HE := fun w => key_eq kd n t kd2 n2 t2 w
   rw [hb] at HE
   have HB := Lib.hid hb
   clear hb
   obtain ⟨f0, f1, f2⟩ := Bag.cs3 S2.out 0 rfl
   obtain ⟨f3, f4, f5⟩ := Bag.cs3 S2.out 1 rfl
   obtain ⟨f6, f7, f8, f9⟩ := HK.out _ S2.out.old
   cases b with
   | true =>
    go_upto_region 4 with fail
    clear f0 f1 f2 f3 f4 f5 f6 f7 f8 f9
    refine wp_region_held_drew (S := (fun w' => (w'.cell? ⟨w.heap.size, 0, none⟩ = some (.string name) ∧ w'.cell? ⟨w.heap.size, 1, none⟩ = some (.slice (some ad) N c) ∧ w'.cell? ⟨w.heap.size, 2, none⟩ = some (.int .i64 auto)) ∧ (w'.cell? ⟨w.heap.size + 1, 0, none⟩ = some (.int .i64 kd2) ∧ w'.cell? ⟨w.heap.size + 1, 1, none⟩ = some (.int .i64 n2) ∧ w'.cell? ⟨w.heap.size + 1, 2, none⟩ = some (.string t2)) ∧ (w'.cell? (ad.add (k * 4)) = some (.int .i64 kd) ∧ w'.cell? (⟨(ad.add (k * 4)).block, (ad.add (k * 4)).off + 1, none⟩) = some (.int .i64 n) ∧ w'.cell? (⟨(ad.add (k * 4)).block, (ad.add (k * 4)).off + 2, none⟩) = some (.string t) ∧ w'.cell? (⟨(ad.add (k * 4)).block, (ad.add (k * 4)).off + 3, none⟩) = some (.slice ia l.length ic)))) (by kernel_rfl) ⟨Bag.cs3 (Bag.drew1 S2.out) 0 rfl, Bag.cs3 (Bag.drew1 S2.out) 1 rfl, HK.out _ (Bag.drew1 S2.out).old⟩ (fun hS => ?_)
    have S3 := Lib.hid (Bag.drew1 S2.out)
    clear S2
    generalize World.drew _ = w1 at hS S3 ⊢
    refine tk 0 rfl ?_
    try simp only [zp0, zp1, zp2, zp3, zp4]
    refine tk 1 rfl ?_
    try simp only [zp0, zp1, zp2, zp3, zp4]
    refine tk 2 rfl ?_
    try simp only [zp0, zp1, zp2, zp3, zp4]
    refine tk 3 rfl ?_
    try simp only [zp0, zp1, zp2, zp3, zp4]
    refine tk 4 rfl ?_
    try simp only [zp0, zp1, zp2, zp3, zp4]
    refine tk 5 rfl ?_
    try simp only [zp0, zp1, zp2, zp3, zp4]
    refine tk 6 rfl ?_
    try simp only [zp0, zp1, zp2, zp3, zp4]
    refine tk 7 rfl ?_
    try simp only [zp0, zp1, zp2, zp3, zp4]
    refine wpAnyH_done (by kernel_rfl) ?_ _
    obtain ⟨f0, f1, f2⟩ := Bag.cs3 S3.out 0 rfl
    obtain ⟨f3, f4, f5⟩ := Bag.cs3 S3.out 1 rfl
    obtain ⟨f6, f7, f8, f9⟩ := HK.out _ S3.out.old
    go_wp2_with fail
    go_ret
    exact ⟨by unfold fndI; rw [fndO_at k hci (by rw [HC.out]; exact HB.out) HA.out]; rfl, S3.out.old⟩
   | false =>
    go_upto_region 4 with fail
    clear f0 f1 f2 f3 f4 f5 f6 f7 f8 f9
    refine wp_region_held_drew (S := (fun w' => (w'.cell? ⟨w.heap.size, 0, none⟩ = some (.string name) ∧ w'.cell? ⟨w.heap.size, 1, none⟩ = some (.slice (some ad) N c) ∧ w'.cell? ⟨w.heap.size, 2, none⟩ = some (.int .i64 auto)) ∧ (w'.cell? ⟨w.heap.size + 1, 0, none⟩ = some (.int .i64 kd2) ∧ w'.cell? ⟨w.heap.size + 1, 1, none⟩ = some (.int .i64 n2) ∧ w'.cell? ⟨w.heap.size + 1, 2, none⟩ = some (.string t2)) ∧ (w'.cell? (ad.add (k * 4)) = some (.int .i64 kd) ∧ w'.cell? (⟨(ad.add (k * 4)).block, (ad.add (k * 4)).off + 1, none⟩) = some (.int .i64 n) ∧ w'.cell? (⟨(ad.add (k * 4)).block, (ad.add (k * 4)).off + 2, none⟩) = some (.string t) ∧ w'.cell? (⟨(ad.add (k * 4)).block, (ad.add (k * 4)).off + 3, none⟩) = some (.slice ia l.length ic)))) (by kernel_rfl) ⟨Bag.cs3 (Bag.drew1 S2.out) 0 rfl, Bag.cs3 (Bag.drew1 S2.out) 1 rfl, HK.out _ (Bag.drew1 S2.out).old⟩ (fun hS => ?_)
    have S3 := Lib.hid (Bag.drew1 S2.out)
    clear S2
    generalize World.drew _ = w1 at hS S3 ⊢
    refine tk 0 rfl ?_
    try simp only [zp0, zp1, zp2, zp3, zp4]
    refine tk 1 rfl ?_
    try simp only [zp0, zp1, zp2, zp3, zp4]
    refine tk 2 rfl ?_
    try simp only [zp0, zp1, zp2, zp3, zp4]
    refine tk 3 rfl ?_
    try simp only [zp0, zp1, zp2, zp3, zp4]
    refine tk 4 rfl ?_
    try simp only [zp0, zp1, zp2, zp3, zp4]
    refine tk 5 rfl ?_
    try simp only [zp0, zp1, zp2, zp3, zp4]
    refine tk 6 rfl ?_
    try simp only [zp0, zp1, zp2, zp3, zp4]
    refine tk 7 rfl ?_
    try simp only [zp0, zp1, zp2, zp3, zp4]
    refine wpAnyH_done (by kernel_rfl) ?_ _
    obtain ⟨f0, f1, f2⟩ := Bag.cs3 S3.out 0 rfl
    obtain ⟨f3, f4, f5⟩ := Bag.cs3 S3.out 1 rfl
    obtain ⟨f6, f7, f8, f9⟩ := HK.out _ S3.out.old
    go_wp2_with fail
    go_roundw
    case rel => exact ⟨k + 1, by omega, by go_num, And.intro (fun j hj h => by
     by_cases e : j < k
     ·
      exact HA.out j hj e
     ·
      obtain rfl : j = k := by omega
      rw [HC.out]; exact HB.out) S3.out⟩
    case measure => simp [intOf]; omega
  ·
   skip
   obtain ⟨f0, f1, f2⟩ := Bag.cs3 S2.out 0 rfl
   obtain ⟨f3, f4, f5⟩ := Bag.cs3 S2.out 1 rfl
   go_wp2_with fail
   go_ret
   obtain rfl : k = N := by omega
   exact ⟨by unfold fndI; rw [fndO_none (fun j hj => HA.out j hj (by have := HN.out; rw [conI_length] at hj; omega))]; rfl, S2.out.old⟩
theorem con_of {xs : List LI} {k : Nat} {x : LI} (hx : xs[k]? = some x) : (conI xs)[k]? = some x.con := by unfold conI; rw [List.getElem?_map, hx]; rfl
set_option maxHeartbeats 8000000 in
theorem specIsStore_any (y : LS) (hf : FitS y.con) (w : World) (hr : RowsRd w w.heap.size y.rows) :
  Calls Try.prog 29 #[y.v] w fun e w' => e = .returned (.bool (isS y.con)) ∧ Below w.heap.size w w' := by
 obtain ⟨name, a, c, xs, auto⟩ := y
 have HR := Lib.hid (fun w' (h : Below w.heap.size w w') => LS.outer (hr.below h))
 have HX := Lib.hid (fun w' (h : Below w.heap.size w w') => (LS.inner (hr.below h)).more h.size)
 have HF := Lib.hid hf.items
 have HNM := Lib.hid hf.name
 have hl := hf.len
 simp only [LS.con, conI_length] at hl
 dsimp only [LS.con] at HR HX HF HNM
 try unfold LS.v LS.cells LS.con
 try dsimp only
 obtain ⟨N, hN⟩ : ∃ n, n = xs.length := ⟨_, rfl⟩
 rw [← hN] at hl ⊢
 have hl' : (N : Int) ≤ 1048576 := by omega
 have HN := Lib.hid hN
 clear hN hr hf
 have S1 := Lib.hid (show Sl.Sep w _ [_] from L4.push_box (Sl.Sep.start w) 26 #[.string name, .slice a N c, .int .i64 auto] (w.heap.size) (by simp))
 obtain ⟨wa, hwa⟩ : ∃ u, u = (w.alloc (.cells #[.string name, .slice a N c, .int .i64 auto] 26)) := ⟨_, rfl⟩
 rw [← hwa] at S1
 go_enter Try.func29, Try.ntmps29
 go_upto_region 1 with fail
 rw [← hwa]
 clear hwa
 go_wp2_with fail
 go_loopw [3] (fun i wr => ∃ k : Nat, k ≤ N ∧ i = .int .i64 k ∧ Hid ((∀ j, j < k → okIx (conI xs) j = true) ∧ Sl.Sep w wr [L4.boxR w.heap.size 26 #[.string name, .slice a N c, .int .i64 auto]])) (fun i _ => N - (intOf i).toNat)
 case atStart => exact ⟨0, Nat.zero_le _, rfl, And.intro (fun j h => absurd h (by omega)) S1.out⟩
 case round =>
  obtain ⟨k, hk, rfl, hrel⟩ := hrel
  have HA := Lib.hid hrel.out.1
  have S2 := Lib.hid hrel.out.2
  clear hrel S1
  by_cases hlt : (k : Int) < (N : Int)
  ·
   skip
   have hkl : k < xs.length := by have := HN.out; omega
   obtain ⟨ad, x, rfl, hx⟩ := readsI_some (HR.out _ S2.out.old) k hkl
   obtain ⟨⟨kd, n, t⟩, ia, ic, l⟩ := x
   have HK := Lib.hid (fun w' (h : Below w.heap.size w w') => readsI_at (HR.out _ h) k _ hx)
   try dsimp only at HK
   have HFI := Lib.hid (fit_at HF.out hx)
   try dsimp only [LI.con] at HFI
   have hci : k < (conI xs).length := by rw [conI_length]; exact hkl
   have HC := Lib.hid (show (conI xs)[k]? = some (⟨⟨kd, n, t⟩, l⟩ : It) from con_of hx)
   obtain ⟨bk, hbk⟩ : ∃ b, isK ⟨kd, n, t⟩ = b := ⟨_, rfl⟩
   have HIK := fun w => L4.specIsKey_any ⟨kd, n, t⟩ (by have : t.size ≤ 1099511627776 := HFI.out.text; show t.size ≤ _; omega) w
   rw [hbk] at HIK
   replace HIK := Lib.hid HIK
   have HBK := Lib.hid hbk
   obtain ⟨br, hbr⟩ : ∃ b, isR l = b := ⟨_, rfl⟩
   have HIR := fun w' (h : Below w.heap.size w w') => L5.specIsRecord_any ia ic l (by have : l.length ≤ 1048576 := HFI.out.len; omega) HFI.out.small w' (((HX.out _ h).at_ (rowsI_mem hx)).reads)
   rw [hbr] at HIR
   replace HIR := Lib.hid HIR
   have HBR := Lib.hid hbr
   clear hbk hbr
   obtain ⟨f0, f1, f2⟩ := Bag.cs3 S2.out 0 rfl
   obtain ⟨f3, f4, f5, f6⟩ := HK.out _ S2.out.old
   cases bk with
   | false =>
    go_upto_region 4 with fail
    clear f0 f1 f2 f3 f4 f5 f6
    refine wp_region_held_drew (S := (fun w' => (w'.cell? ⟨w.heap.size, 0, none⟩ = some (.string name) ∧ w'.cell? ⟨w.heap.size, 1, none⟩ = some (.slice (some ad) N c) ∧ w'.cell? ⟨w.heap.size, 2, none⟩ = some (.int .i64 auto)) ∧ (w'.cell? (ad.add (k * 4)) = some (.int .i64 kd) ∧ w'.cell? (⟨(ad.add (k * 4)).block, (ad.add (k * 4)).off + 1, none⟩) = some (.int .i64 n) ∧ w'.cell? (⟨(ad.add (k * 4)).block, (ad.add (k * 4)).off + 2, none⟩) = some (.string t) ∧ w'.cell? (⟨(ad.add (k * 4)).block, (ad.add (k * 4)).off + 3, none⟩) = some (.slice ia l.length ic)))) (by kernel_rfl) ⟨Bag.cs3 (Bag.drew1 S2.out) 0 rfl, HK.out _ (Bag.drew1 S2.out).old⟩ (fun hS => ?_)
    have S3 := Lib.hid (Bag.drew1 S2.out)
    clear S2
    generalize World.drew _ = w1 at hS S3 ⊢
    refine tk 0 rfl ?_
    try simp only [zp0, zp1, zp2, zp3, zp4]
    refine tk 1 rfl ?_
    try simp only [zp0, zp1, zp2, zp3, zp4]
    refine tk 2 rfl ?_
    try simp only [zp0, zp1, zp2, zp3, zp4]
    refine tk 3 rfl ?_
    try simp only [zp0, zp1, zp2, zp3, zp4]
    refine tk 4 rfl ?_
    try simp only [zp0, zp1, zp2, zp3, zp4]
    refine tk 5 rfl ?_
    try simp only [zp0, zp1, zp2, zp3, zp4]
    refine Reg.one_op (i := 6) rfl (by kernel_rfl) (fun K hK => ?_)
    go_simp
    go_at_call 85
    refine (HIK.out _).mono ?_
    rintro e w2 ⟨rfl, hb⟩
    have S4 := Lib.hid (S3.out.keep hb)
    clear S3
    clear hb
    go_wp2_with fail
    refine hK.out _ _ ⟨Bag.cs3 S4.out 0 rfl, HK.out _ S4.out.old⟩ (fun hS => ?_)
    clear hK K
    try simp only [zp0, zp1, zp2, zp3, zp4]
    refine tk 7 rfl ?_
    try simp only [zp0, zp1, zp2, zp3, zp4]
    refine tk 8 rfl ?_
    try simp only [zp0, zp1, zp2, zp3, zp4]
    refine sk 9 rfl ?_
    try simp only [zp0, zp1, zp2, zp3, zp4]
    refine sk 10 rfl ?_
    try simp only [zp0, zp1, zp2, zp3, zp4]
    refine sk 11 rfl ?_
    try simp only [zp0, zp1, zp2, zp3, zp4]
    refine sk 12 rfl ?_
    try simp only [zp0, zp1, zp2, zp3, zp4]
    refine sk 13 rfl ?_
    try simp only [zp0, zp1, zp2, zp3, zp4]
    refine sk 14 rfl ?_
    try simp only [zp0, zp1, zp2, zp3, zp4]
    refine Reg.skip_one (i := 15) rfl (by kernel_rfl) (by rfl) (by assumption) ?_
    try simp only [zp0, zp1, zp2, zp3, zp4]
    refine sk 16 rfl ?_
    try simp only [zp0, zp1, zp2, zp3, zp4]
    refine tk 17 rfl ?_
    try simp only [zp0, zp1, zp2, zp3, zp4]
    refine tk 18 rfl ?_
    try simp only [zp0, zp1, zp2, zp3, zp4]
    refine sk 19 rfl ?_
    try simp only [zp0, zp1, zp2, zp3, zp4]
    refine sk 20 rfl ?_
    try simp only [zp0, zp1, zp2, zp3, zp4]
    refine sk 21 rfl ?_
    try simp only [zp0, zp1, zp2, zp3, zp4]
    refine sk 22 rfl ?_
    try simp only [zp0, zp1, zp2, zp3, zp4]
    refine sk 23 rfl ?_
    try simp only [zp0, zp1, zp2, zp3, zp4]
    refine sk 24 rfl ?_
    try simp only [zp0, zp1, zp2, zp3, zp4]
    refine sk 25 rfl ?_
    try simp only [zp0, zp1, zp2, zp3, zp4]
    refine sk 26 rfl ?_
    try simp only [zp0, zp1, zp2, zp3, zp4]
    refine sk 27 rfl ?_
    try simp only [zp0, zp1, zp2, zp3, zp4]
    refine sk 28 rfl ?_
    try simp only [zp0, zp1, zp2, zp3, zp4]
    refine sk 29 rfl ?_
    try simp only [zp0, zp1, zp2, zp3, zp4]
    refine sk 30 rfl ?_
    try simp only [zp0, zp1, zp2, zp3, zp4]
    refine sk 31 rfl ?_
    try simp only [zp0, zp1, zp2, zp3, zp4]
    refine sk 32 rfl ?_
    try simp only [zp0, zp1, zp2, zp3, zp4]
    refine sk 33 rfl ?_
    try simp only [zp0, zp1, zp2, zp3, zp4]
    refine sk 34 rfl ?_
    try simp only [zp0, zp1, zp2, zp3, zp4]
    refine Reg.skip_one (i := 35) rfl (by kernel_rfl) (by rfl) (by assumption) ?_
    try simp only [zp0, zp1, zp2, zp3, zp4]
    refine sk 36 rfl ?_
    try simp only [zp0, zp1, zp2, zp3, zp4]
    refine sk 37 rfl ?_
    try simp only [zp0, zp1, zp2, zp3, zp4]
    refine tk 38 rfl ?_
    try simp only [zp0, zp1, zp2, zp3, zp4]
    refine wpAnyH_done (by kernel_rfl) ?_ _
    obtain ⟨f0, f1, f2⟩ := Bag.cs3 S4.out 0 rfl
    obtain ⟨f3, f4, f5, f6⟩ := HK.out _ S4.out.old
    have HNO := Lib.hid (show isI (conI xs) = false from isI_no k hci (by rw [okIx_at HC.out]; dsimp only; rw [HBK.out]; rfl))
    go_wp2_with fail
    go_ret
    exact ⟨by unfold isS; rw [HNO.out]; rfl, S4.out.old⟩
   | true =>
    cases br with
    | false =>
     go_upto_region 4 with fail
     clear f0 f1 f2 f3 f4 f5 f6
     refine wp_region_held_drew (S := (fun w' => (w'.cell? ⟨w.heap.size, 0, none⟩ = some (.string name) ∧ w'.cell? ⟨w.heap.size, 1, none⟩ = some (.slice (some ad) N c) ∧ w'.cell? ⟨w.heap.size, 2, none⟩ = some (.int .i64 auto)) ∧ (w'.cell? (ad.add (k * 4)) = some (.int .i64 kd) ∧ w'.cell? (⟨(ad.add (k * 4)).block, (ad.add (k * 4)).off + 1, none⟩) = some (.int .i64 n) ∧ w'.cell? (⟨(ad.add (k * 4)).block, (ad.add (k * 4)).off + 2, none⟩) = some (.string t) ∧ w'.cell? (⟨(ad.add (k * 4)).block, (ad.add (k * 4)).off + 3, none⟩) = some (.slice ia l.length ic)))) (by kernel_rfl) ⟨Bag.cs3 (Bag.drew1 S2.out) 0 rfl, HK.out _ (Bag.drew1 S2.out).old⟩ (fun hS => ?_)
     have S3 := Lib.hid (Bag.drew1 S2.out)
     clear S2
     generalize World.drew _ = w1 at hS S3 ⊢
     refine tk 0 rfl ?_
     try simp only [zp0, zp1, zp2, zp3, zp4]
     refine tk 1 rfl ?_
     try simp only [zp0, zp1, zp2, zp3, zp4]
     refine tk 2 rfl ?_
     try simp only [zp0, zp1, zp2, zp3, zp4]
     refine tk 3 rfl ?_
     try simp only [zp0, zp1, zp2, zp3, zp4]
     refine tk 4 rfl ?_
     try simp only [zp0, zp1, zp2, zp3, zp4]
     refine tk 5 rfl ?_
     try simp only [zp0, zp1, zp2, zp3, zp4]
     refine Reg.one_op (i := 6) rfl (by kernel_rfl) (fun K hK => ?_)
     go_simp
     go_at_call 85
     refine (HIK.out _).mono ?_
     rintro e w2 ⟨rfl, hb⟩
     have S4 := Lib.hid (S3.out.keep hb)
     clear S3
     clear hb
     go_wp2_with fail
     refine hK.out _ _ ⟨Bag.cs3 S4.out 0 rfl, HK.out _ S4.out.old⟩ (fun hS => ?_)
     clear hK K
     try simp only [zp0, zp1, zp2, zp3, zp4]
     refine tk 7 rfl ?_
     try simp only [zp0, zp1, zp2, zp3, zp4]
     refine tk 8 rfl ?_
     try simp only [zp0, zp1, zp2, zp3, zp4]
     refine tk 9 rfl ?_
     try simp only [zp0, zp1, zp2, zp3, zp4]
     refine tk 10 rfl ?_
     try simp only [zp0, zp1, zp2, zp3, zp4]
     refine tk 11 rfl ?_
     try simp only [zp0, zp1, zp2, zp3, zp4]
     refine tk 12 rfl ?_
     try simp only [zp0, zp1, zp2, zp3, zp4]
     refine tk 13 rfl ?_
     try simp only [zp0, zp1, zp2, zp3, zp4]
     refine tk 14 rfl ?_
     try simp only [zp0, zp1, zp2, zp3, zp4]
     refine Reg.one_op (i := 15) rfl (by kernel_rfl) (fun K hK => ?_)
     go_simp
     go_at_call 86
     refine (HIR.out _ S4.out.old).mono ?_
     rintro e w3 ⟨rfl, hb⟩
     have S5 := Lib.hid (S4.out.keep hb)
     clear S4
     clear hb
     go_wp2_with fail
     refine hK.out _ _ ⟨Bag.cs3 S5.out 0 rfl, HK.out _ S5.out.old⟩ (fun hS => ?_)
     clear hK K
     try simp only [zp0, zp1, zp2, zp3, zp4]
     refine tk 16 rfl ?_
     try simp only [zp0, zp1, zp2, zp3, zp4]
     refine tk 17 rfl ?_
     try simp only [zp0, zp1, zp2, zp3, zp4]
     refine tk 18 rfl ?_
     try simp only [zp0, zp1, zp2, zp3, zp4]
     refine sk 19 rfl ?_
     try simp only [zp0, zp1, zp2, zp3, zp4]
     refine sk 20 rfl ?_
     try simp only [zp0, zp1, zp2, zp3, zp4]
     refine sk 21 rfl ?_
     try simp only [zp0, zp1, zp2, zp3, zp4]
     refine sk 22 rfl ?_
     try simp only [zp0, zp1, zp2, zp3, zp4]
     refine sk 23 rfl ?_
     try simp only [zp0, zp1, zp2, zp3, zp4]
     refine sk 24 rfl ?_
     try simp only [zp0, zp1, zp2, zp3, zp4]
     refine sk 25 rfl ?_
     try simp only [zp0, zp1, zp2, zp3, zp4]
     refine sk 26 rfl ?_
     try simp only [zp0, zp1, zp2, zp3, zp4]
     refine sk 27 rfl ?_
     try simp only [zp0, zp1, zp2, zp3, zp4]
     refine sk 28 rfl ?_
     try simp only [zp0, zp1, zp2, zp3, zp4]
     refine sk 29 rfl ?_
     try simp only [zp0, zp1, zp2, zp3, zp4]
     refine sk 30 rfl ?_
     try simp only [zp0, zp1, zp2, zp3, zp4]
     refine sk 31 rfl ?_
     try simp only [zp0, zp1, zp2, zp3, zp4]
     refine sk 32 rfl ?_
     try simp only [zp0, zp1, zp2, zp3, zp4]
     refine sk 33 rfl ?_
     try simp only [zp0, zp1, zp2, zp3, zp4]
     refine sk 34 rfl ?_
     try simp only [zp0, zp1, zp2, zp3, zp4]
     refine Reg.skip_one (i := 35) rfl (by kernel_rfl) (by rfl) (by assumption) ?_
     try simp only [zp0, zp1, zp2, zp3, zp4]
     refine sk 36 rfl ?_
     try simp only [zp0, zp1, zp2, zp3, zp4]
     refine sk 37 rfl ?_
     try simp only [zp0, zp1, zp2, zp3, zp4]
     refine tk 38 rfl ?_
     try simp only [zp0, zp1, zp2, zp3, zp4]
     refine wpAnyH_done (by kernel_rfl) ?_ _
     obtain ⟨f0, f1, f2⟩ := Bag.cs3 S5.out 0 rfl
     obtain ⟨f3, f4, f5, f6⟩ := HK.out _ S5.out.old
     have HNO := Lib.hid (show isI (conI xs) = false from isI_no k hci (by rw [okIx_at HC.out]; dsimp only; rw [HBK.out, HBR.out]; rfl))
     go_wp2_with fail
     go_ret
     exact ⟨by unfold isS; rw [HNO.out]; rfl, S5.out.old⟩
    | true =>
     rcases Nat.eq_zero_or_pos k with hk0 | hk0
     ·
      have hk1 : (0 < k) = False := by simp; omega
      have HZ := Lib.hid hk0
      clear hk0
      go_upto_region 4 with fail
      clear f0 f1 f2 f3 f4 f5 f6
      refine wp_region_held_drew (S := (fun w' => (w'.cell? ⟨w.heap.size, 0, none⟩ = some (.string name) ∧ w'.cell? ⟨w.heap.size, 1, none⟩ = some (.slice (some ad) N c) ∧ w'.cell? ⟨w.heap.size, 2, none⟩ = some (.int .i64 auto)) ∧ (w'.cell? (ad.add (k * 4)) = some (.int .i64 kd) ∧ w'.cell? (⟨(ad.add (k * 4)).block, (ad.add (k * 4)).off + 1, none⟩) = some (.int .i64 n) ∧ w'.cell? (⟨(ad.add (k * 4)).block, (ad.add (k * 4)).off + 2, none⟩) = some (.string t) ∧ w'.cell? (⟨(ad.add (k * 4)).block, (ad.add (k * 4)).off + 3, none⟩) = some (.slice ia l.length ic)))) (by kernel_rfl) ⟨Bag.cs3 (Bag.drew1 S2.out) 0 rfl, HK.out _ (Bag.drew1 S2.out).old⟩ (fun hS => ?_)
      have S3 := Lib.hid (Bag.drew1 S2.out)
      clear S2
      generalize World.drew _ = w1 at hS S3 ⊢
      refine tk 0 rfl ?_
      try simp only [zp0, zp1, zp2, zp3, zp4]
      refine tk 1 rfl ?_
      try simp only [zp0, zp1, zp2, zp3, zp4]
      refine tk 2 rfl ?_
      try simp only [zp0, zp1, zp2, zp3, zp4]
      refine tk 3 rfl ?_
      try simp only [zp0, zp1, zp2, zp3, zp4]
      refine tk 4 rfl ?_
      try simp only [zp0, zp1, zp2, zp3, zp4]
      refine tk 5 rfl ?_
      try simp only [zp0, zp1, zp2, zp3, zp4]
      refine Reg.one_op (i := 6) rfl (by kernel_rfl) (fun K hK => ?_)
      go_simp
      go_at_call 85
      refine (HIK.out _).mono ?_
      rintro e w2 ⟨rfl, hb⟩
      have S4 := Lib.hid (S3.out.keep hb)
      clear S3
      clear hb
      go_wp2_with fail
      refine hK.out _ _ ⟨Bag.cs3 S4.out 0 rfl, HK.out _ S4.out.old⟩ (fun hS => ?_)
      clear hK K
      try simp only [zp0, zp1, zp2, zp3, zp4]
      refine tk 7 rfl ?_
      try simp only [zp0, zp1, zp2, zp3, zp4]
      refine tk 8 rfl ?_
      try simp only [zp0, zp1, zp2, zp3, zp4]
      refine tk 9 rfl ?_
      try simp only [zp0, zp1, zp2, zp3, zp4]
      refine tk 10 rfl ?_
      try simp only [zp0, zp1, zp2, zp3, zp4]
      refine tk 11 rfl ?_
      try simp only [zp0, zp1, zp2, zp3, zp4]
      refine tk 12 rfl ?_
      try simp only [zp0, zp1, zp2, zp3, zp4]
      refine tk 13 rfl ?_
      try simp only [zp0, zp1, zp2, zp3, zp4]
      refine tk 14 rfl ?_
      try simp only [zp0, zp1, zp2, zp3, zp4]
      refine Reg.one_op (i := 15) rfl (by kernel_rfl) (fun K hK => ?_)
      go_simp
      go_at_call 86
      refine (HIR.out _ S4.out.old).mono ?_
      rintro e w3 ⟨rfl, hb⟩
      have S5 := Lib.hid (S4.out.keep hb)
      clear S4
      clear hb
      go_wp2_with fail
      refine hK.out _ _ ⟨Bag.cs3 S5.out 0 rfl, HK.out _ S5.out.old⟩ (fun hS => ?_)
      clear hK K
      try simp only [zp0, zp1, zp2, zp3, zp4]
      refine tk 16 rfl ?_
      try simp only [zp0, zp1, zp2, zp3, zp4]
      refine tk 17 rfl ?_
      try simp only [zp0, zp1, zp2, zp3, zp4]
      refine tk 18 rfl ?_
      try simp only [zp0, zp1, zp2, zp3, zp4]
      refine tk 19 rfl ?_
      try simp only [zp0, zp1, zp2, zp3, zp4]
      refine tk 20 rfl ?_
      try simp only [zp0, zp1, zp2, zp3, zp4]
      refine tk 21 rfl ?_
      try simp only [zp0, zp1, zp2, zp3, zp4]
      refine sk 22 rfl ?_
      try simp only [zp0, zp1, zp2, zp3, zp4]
      refine sk 23 rfl ?_
      try simp only [zp0, zp1, zp2, zp3, zp4]
      refine sk 24 rfl ?_
      try simp only [zp0, zp1, zp2, zp3, zp4]
      refine sk 25 rfl ?_
      try simp only [zp0, zp1, zp2, zp3, zp4]
      refine sk 26 rfl ?_
      try simp only [zp0, zp1, zp2, zp3, zp4]
      refine sk 27 rfl ?_
      try simp only [zp0, zp1, zp2, zp3, zp4]
      refine sk 28 rfl ?_
      try simp only [zp0, zp1, zp2, zp3, zp4]
      refine sk 29 rfl ?_
      try simp only [zp0, zp1, zp2, zp3, zp4]
      refine sk 30 rfl ?_
      try simp only [zp0, zp1, zp2, zp3, zp4]
      refine sk 31 rfl ?_
      try simp only [zp0, zp1, zp2, zp3, zp4]
      refine sk 32 rfl ?_
      try simp only [zp0, zp1, zp2, zp3, zp4]
      refine sk 33 rfl ?_
      try simp only [zp0, zp1, zp2, zp3, zp4]
      refine sk 34 rfl ?_
      try simp only [zp0, zp1, zp2, zp3, zp4]
      refine Reg.skip_one (i := 35) rfl (by kernel_rfl) (by rfl) (by assumption) ?_
      try simp only [zp0, zp1, zp2, zp3, zp4]
      refine sk 36 rfl ?_
      try simp only [zp0, zp1, zp2, zp3, zp4]
      refine tk 37 rfl ?_
      try simp only [zp0, zp1, zp2, zp3, zp4]
      refine tk 38 rfl ?_
      try simp only [zp0, zp1, zp2, zp3, zp4]
      refine wpAnyH_done (by kernel_rfl) ?_ _
      obtain ⟨f0, f1, f2⟩ := Bag.cs3 S5.out 0 rfl
      obtain ⟨f3, f4, f5, f6⟩ := HK.out _ S5.out.old
      go_wp2_with fail
      go_roundw
      case rel => exact ⟨k + 1, by omega, by go_num, And.intro (fun j h => by
       by_cases e : j < k
       ·
        exact HA.out j e
       ·
        obtain rfl : j = k := by omega
        exact by rw [okIx_at HC.out]; dsimp only; rw [HBK.out, HBR.out, HZ.out]; rfl) S5.out⟩
      case measure => simp [intOf]; omega
     ·
      obtain ⟨m, hkm⟩ : ∃ m, k = m + 1 := ⟨k - 1, by omega⟩
      have hki : (k : Int) - 1 = (m : Int) := by omega
      have HKM := Lib.hid hkm
      have hm0 : m < xs.length := by omega
      have hmi : (m : Int) < (N : Int) := by omega
      have hmw : IntKind.i64.wrap (m : Int) = (m : Int) := IntWalk.i64_in _ ⟨by omega, by omega⟩
      clear hkm
      clear f0 f1 f2 f3 f4 f5 f6
      obtain ⟨ad_, x2, e_, hx2⟩ := readsI_some (HR.out _ S2.out.old) m hm0
      clear e_ ad_
      obtain ⟨⟨kd2, n2, t2⟩, ia2, ic2, l2⟩ := x2
      have HK2 := Lib.hid (fun w' (h : Below w.heap.size w w') => readsI_at (HR.out _ h) m _ hx2)
      try dsimp only at HK2
      have HC2 := Lib.hid (show (conI xs)[m]? = some (⟨⟨kd2, n2, t2⟩, l2⟩ : It) from con_of hx2)
      have HFI2 := Lib.hid (fit_at HF.out hx2)
      clear hx2
      obtain ⟨cv, hcv⟩ : ∃ b, cmpK ⟨kd2, n2, t2⟩ ⟨kd, n, t⟩ = b := ⟨_, rfl⟩
      have HCMP := fun w => L4.specCompareKeys_any ⟨kd2, n2, t2⟩ ⟨kd, n, t⟩ (by have : t2.size ≤ 1099511627776 := HFI2.out.text; show t2.size ≤ _; omega) (by have : t.size ≤ 1099511627776 := HFI.out.text; show t.size ≤ _; omega) w
      rw [hcv] at HCMP
      replace HCMP := Lib.hid HCMP
      have HCV := Lib.hid hcv
      clear hcv
      obtain ⟨f0, f1, f2⟩ := Bag.cs3 S2.out 0 rfl
      obtain ⟨f3, f4, f5, f6⟩ := HK.out _ S2.out.old
      obtain ⟨f7, f8, f9, f10⟩ := HK2.out _ S2.out.old
      by_cases hc : cv < 0
      ·
       have hc2 : ¬ 0 ≤ cv := by omega
       go_upto_region 4 with fail
       clear f0 f1 f2 f3 f4 f5 f6 f7 f8 f9 f10
       refine wp_region_held_drew (S := (fun w' => (w'.cell? ⟨w.heap.size, 0, none⟩ = some (.string name) ∧ w'.cell? ⟨w.heap.size, 1, none⟩ = some (.slice (some ad) N c) ∧ w'.cell? ⟨w.heap.size, 2, none⟩ = some (.int .i64 auto)) ∧ (w'.cell? (ad.add (k * 4)) = some (.int .i64 kd) ∧ w'.cell? (⟨(ad.add (k * 4)).block, (ad.add (k * 4)).off + 1, none⟩) = some (.int .i64 n) ∧ w'.cell? (⟨(ad.add (k * 4)).block, (ad.add (k * 4)).off + 2, none⟩) = some (.string t) ∧ w'.cell? (⟨(ad.add (k * 4)).block, (ad.add (k * 4)).off + 3, none⟩) = some (.slice ia l.length ic)) ∧ (w'.cell? (ad.add (m * 4)) = some (.int .i64 kd2) ∧ w'.cell? (⟨(ad.add (m * 4)).block, (ad.add (m * 4)).off + 1, none⟩) = some (.int .i64 n2) ∧ w'.cell? (⟨(ad.add (m * 4)).block, (ad.add (m * 4)).off + 2, none⟩) = some (.string t2) ∧ w'.cell? (⟨(ad.add (m * 4)).block, (ad.add (m * 4)).off + 3, none⟩) = some (.slice ia2 l2.length ic2)))) (by kernel_rfl) ⟨Bag.cs3 (Bag.drew1 S2.out) 0 rfl, HK.out _ (Bag.drew1 S2.out).old, HK2.out _ (Bag.drew1 S2.out).old⟩ (fun hS => ?_)
       have S3 := Lib.hid (Bag.drew1 S2.out)
       clear S2
       generalize World.drew _ = w1 at hS S3 ⊢
       refine tk 0 rfl ?_
       try simp only [zp0, zp1, zp2, zp3, zp4]
       refine tk 1 rfl ?_
       try simp only [zp0, zp1, zp2, zp3, zp4]
       refine tk 2 rfl ?_
       try simp only [zp0, zp1, zp2, zp3, zp4]
       refine tk 3 rfl ?_
       try simp only [zp0, zp1, zp2, zp3, zp4]
       refine tk 4 rfl ?_
       try simp only [zp0, zp1, zp2, zp3, zp4]
       refine tk 5 rfl ?_
       try simp only [zp0, zp1, zp2, zp3, zp4]
       refine Reg.one_op (i := 6) rfl (by kernel_rfl) (fun K hK => ?_)
       go_simp
       go_at_call 85
       refine (HIK.out _).mono ?_
       rintro e w2 ⟨rfl, hb⟩
       have S4 := Lib.hid (S3.out.keep hb)
       clear S3
       clear hb
       go_wp2_with fail
       refine hK.out _ _ ⟨Bag.cs3 S4.out 0 rfl, HK.out _ S4.out.old, HK2.out _ S4.out.old⟩ (fun hS => ?_)
       clear hK K
       try simp only [zp0, zp1, zp2, zp3, zp4]
       refine tk 7 rfl ?_
       try simp only [zp0, zp1, zp2, zp3, zp4]
       refine tk 8 rfl ?_
       try simp only [zp0, zp1, zp2, zp3, zp4]
       refine tk 9 rfl ?_
       try simp only [zp0, zp1, zp2, zp3, zp4]
       refine tk 10 rfl ?_
       try simp only [zp0, zp1, zp2, zp3, zp4]
       refine tk 11 rfl ?_
       try simp only [zp0, zp1, zp2, zp3, zp4]
       refine tk 12 rfl ?_
       try simp only [zp0, zp1, zp2, zp3, zp4]
       refine tk 13 rfl ?_
       try simp only [zp0, zp1, zp2, zp3, zp4]
       refine tk 14 rfl ?_
       try simp only [zp0, zp1, zp2, zp3, zp4]
       refine Reg.one_op (i := 15) rfl (by kernel_rfl) (fun K hK => ?_)
       go_simp
       go_at_call 86
       refine (HIR.out _ S4.out.old).mono ?_
       rintro e w3 ⟨rfl, hb⟩
       have S5 := Lib.hid (S4.out.keep hb)
       clear S4
       clear hb
       go_wp2_with fail
       refine hK.out _ _ ⟨Bag.cs3 S5.out 0 rfl, HK.out _ S5.out.old, HK2.out _ S5.out.old⟩ (fun hS => ?_)
       clear hK K
       try simp only [zp0, zp1, zp2, zp3, zp4]
       refine tk 16 rfl ?_
       try simp only [zp0, zp1, zp2, zp3, zp4]
       refine tk 17 rfl ?_
       try simp only [zp0, zp1, zp2, zp3, zp4]
       refine tk 18 rfl ?_
       try simp only [zp0, zp1, zp2, zp3, zp4]
       refine tk 19 rfl ?_
       try simp only [zp0, zp1, zp2, zp3, zp4]
       refine tk 20 rfl ?_
       try simp only [zp0, zp1, zp2, zp3, zp4]
       refine tk 21 rfl ?_
       try simp only [zp0, zp1, zp2, zp3, zp4]
       refine tk 22 rfl ?_
       try simp only [zp0, zp1, zp2, zp3, zp4]
       refine tk 23 rfl ?_
       try simp only [zp0, zp1, zp2, zp3, zp4]
       refine tk 24 rfl ?_
       try simp only [zp0, zp1, zp2, zp3, zp4]
       refine tk 25 rfl ?_
       try simp only [zp0, zp1, zp2, zp3, zp4]
       refine tk 26 rfl ?_
       try simp only [zp0, zp1, zp2, zp3, zp4]
       refine tk 27 rfl ?_
       try simp only [zp0, zp1, zp2, zp3, zp4]
       refine tk 28 rfl ?_
       try simp only [zp0, zp1, zp2, zp3, zp4]
       refine tk 29 rfl ?_
       try simp only [zp0, zp1, zp2, zp3, zp4]
       refine tk 30 rfl ?_
       try simp only [zp0, zp1, zp2, zp3, zp4]
       refine tk 31 rfl ?_
       try simp only [zp0, zp1, zp2, zp3, zp4]
       refine tk 32 rfl ?_
       try simp only [zp0, zp1, zp2, zp3, zp4]
       refine tk 33 rfl ?_
       try simp only [zp0, zp1, zp2, zp3, zp4]
       refine tk 34 rfl ?_
       try simp only [zp0, zp1, zp2, zp3, zp4]
       refine Reg.one_op (i := 35) rfl (by kernel_rfl) (fun K hK => ?_)
       go_simp
       go_at_call 90
       refine (HCMP.out _).mono ?_
       rintro e w4 ⟨rfl, hb⟩
       have S6 := Lib.hid (S5.out.keep hb)
       clear S5
       clear hb
       go_wp2_with fail
       refine hK.out _ _ ⟨Bag.cs3 S6.out 0 rfl, HK.out _ S6.out.old, HK2.out _ S6.out.old⟩ (fun hS => ?_)
       clear hK K
       try simp only [zp0, zp1, zp2, zp3, zp4]
       refine tk 36 rfl ?_
       try simp only [zp0, zp1, zp2, zp3, zp4]
       refine tk 37 rfl ?_
       try simp only [zp0, zp1, zp2, zp3, zp4]
       refine tk 38 rfl ?_
       try simp only [zp0, zp1, zp2, zp3, zp4]
       refine wpAnyH_done (by kernel_rfl) ?_ _
       obtain ⟨f0, f1, f2⟩ := Bag.cs3 S6.out 0 rfl
       obtain ⟨f3, f4, f5, f6⟩ := HK.out _ S6.out.old
       obtain ⟨f7, f8, f9, f10⟩ := HK2.out _ S6.out.old
       go_wp2_with fail
       go_roundw
       case rel => exact ⟨k + 1, by omega, by go_num, And.intro (fun j h => by
        by_cases e : j < k
        ·
         exact HA.out j e
        ·
         obtain rfl : j = k := by omega
         rw [okIx_at HC.out, HKM.out, behind_at HC2.out]; dsimp only; rw [HBK.out, HBR.out, HCV.out]; simpa using hc) S6.out⟩
       case measure => simp [intOf]; omega
      ·
       have hc2 : 0 ≤ cv := by omega
       go_upto_region 4 with fail
       clear f0 f1 f2 f3 f4 f5 f6 f7 f8 f9 f10
       refine wp_region_held_drew (S := (fun w' => (w'.cell? ⟨w.heap.size, 0, none⟩ = some (.string name) ∧ w'.cell? ⟨w.heap.size, 1, none⟩ = some (.slice (some ad) N c) ∧ w'.cell? ⟨w.heap.size, 2, none⟩ = some (.int .i64 auto)) ∧ (w'.cell? (ad.add (k * 4)) = some (.int .i64 kd) ∧ w'.cell? (⟨(ad.add (k * 4)).block, (ad.add (k * 4)).off + 1, none⟩) = some (.int .i64 n) ∧ w'.cell? (⟨(ad.add (k * 4)).block, (ad.add (k * 4)).off + 2, none⟩) = some (.string t) ∧ w'.cell? (⟨(ad.add (k * 4)).block, (ad.add (k * 4)).off + 3, none⟩) = some (.slice ia l.length ic)) ∧ (w'.cell? (ad.add (m * 4)) = some (.int .i64 kd2) ∧ w'.cell? (⟨(ad.add (m * 4)).block, (ad.add (m * 4)).off + 1, none⟩) = some (.int .i64 n2) ∧ w'.cell? (⟨(ad.add (m * 4)).block, (ad.add (m * 4)).off + 2, none⟩) = some (.string t2) ∧ w'.cell? (⟨(ad.add (m * 4)).block, (ad.add (m * 4)).off + 3, none⟩) = some (.slice ia2 l2.length ic2)))) (by kernel_rfl) ⟨Bag.cs3 (Bag.drew1 S2.out) 0 rfl, HK.out _ (Bag.drew1 S2.out).old, HK2.out _ (Bag.drew1 S2.out).old⟩ (fun hS => ?_)
       have S3 := Lib.hid (Bag.drew1 S2.out)
       clear S2
       generalize World.drew _ = w1 at hS S3 ⊢
       refine tk 0 rfl ?_
       try simp only [zp0, zp1, zp2, zp3, zp4]
       refine tk 1 rfl ?_
       try simp only [zp0, zp1, zp2, zp3, zp4]
       refine tk 2 rfl ?_
       try simp only [zp0, zp1, zp2, zp3, zp4]
       refine tk 3 rfl ?_
       try simp only [zp0, zp1, zp2, zp3, zp4]
       refine tk 4 rfl ?_
       try simp only [zp0, zp1, zp2, zp3, zp4]
       refine tk 5 rfl ?_
       try simp only [zp0, zp1, zp2, zp3, zp4]
       refine Reg.one_op (i := 6) rfl (by kernel_rfl) (fun K hK => ?_)
       go_simp
       go_at_call 85
       refine (HIK.out _).mono ?_
       rintro e w2 ⟨rfl, hb⟩
       have S4 := Lib.hid (S3.out.keep hb)
       clear S3
       clear hb
       go_wp2_with fail
       refine hK.out _ _ ⟨Bag.cs3 S4.out 0 rfl, HK.out _ S4.out.old, HK2.out _ S4.out.old⟩ (fun hS => ?_)
       clear hK K
       try simp only [zp0, zp1, zp2, zp3, zp4]
       refine tk 7 rfl ?_
       try simp only [zp0, zp1, zp2, zp3, zp4]
       refine tk 8 rfl ?_
       try simp only [zp0, zp1, zp2, zp3, zp4]
       refine tk 9 rfl ?_
       try simp only [zp0, zp1, zp2, zp3, zp4]
       refine tk 10 rfl ?_
       try simp only [zp0, zp1, zp2, zp3, zp4]
       refine tk 11 rfl ?_
       try simp only [zp0, zp1, zp2, zp3, zp4]
       refine tk 12 rfl ?_
       try simp only [zp0, zp1, zp2, zp3, zp4]
       refine tk 13 rfl ?_
       try simp only [zp0, zp1, zp2, zp3, zp4]
       refine tk 14 rfl ?_
       try simp only [zp0, zp1, zp2, zp3, zp4]
       refine Reg.one_op (i := 15) rfl (by kernel_rfl) (fun K hK => ?_)
       go_simp
       go_at_call 86
       refine (HIR.out _ S4.out.old).mono ?_
       rintro e w3 ⟨rfl, hb⟩
       have S5 := Lib.hid (S4.out.keep hb)
       clear S4
       clear hb
       go_wp2_with fail
       refine hK.out _ _ ⟨Bag.cs3 S5.out 0 rfl, HK.out _ S5.out.old, HK2.out _ S5.out.old⟩ (fun hS => ?_)
       clear hK K
       try simp only [zp0, zp1, zp2, zp3, zp4]
       refine tk 16 rfl ?_
       try simp only [zp0, zp1, zp2, zp3, zp4]
       refine tk 17 rfl ?_
       try simp only [zp0, zp1, zp2, zp3, zp4]
       refine tk 18 rfl ?_
       try simp only [zp0, zp1, zp2, zp3, zp4]
       refine tk 19 rfl ?_
       try simp only [zp0, zp1, zp2, zp3, zp4]
       refine tk 20 rfl ?_
       try simp only [zp0, zp1, zp2, zp3, zp4]
       refine tk 21 rfl ?_
       try simp only [zp0, zp1, zp2, zp3, zp4]
       refine tk 22 rfl ?_
       try simp only [zp0, zp1, zp2, zp3, zp4]
       refine tk 23 rfl ?_
       try simp only [zp0, zp1, zp2, zp3, zp4]
       refine tk 24 rfl ?_
       try simp only [zp0, zp1, zp2, zp3, zp4]
       refine tk 25 rfl ?_
       try simp only [zp0, zp1, zp2, zp3, zp4]
       refine tk 26 rfl ?_
       try simp only [zp0, zp1, zp2, zp3, zp4]
       refine tk 27 rfl ?_
       try simp only [zp0, zp1, zp2, zp3, zp4]
       refine tk 28 rfl ?_
       try simp only [zp0, zp1, zp2, zp3, zp4]
       refine tk 29 rfl ?_
       try simp only [zp0, zp1, zp2, zp3, zp4]
       refine tk 30 rfl ?_
       try simp only [zp0, zp1, zp2, zp3, zp4]
       refine tk 31 rfl ?_
       try simp only [zp0, zp1, zp2, zp3, zp4]
       refine tk 32 rfl ?_
       try simp only [zp0, zp1, zp2, zp3, zp4]
       refine tk 33 rfl ?_
       try simp only [zp0, zp1, zp2, zp3, zp4]
       refine tk 34 rfl ?_
       try simp only [zp0, zp1, zp2, zp3, zp4]
       refine Reg.one_op (i := 35) rfl (by kernel_rfl) (fun K hK => ?_)
       go_simp
       go_at_call 90
       refine (HCMP.out _).mono ?_
       rintro e w4 ⟨rfl, hb⟩
       have S6 := Lib.hid (S5.out.keep hb)
       clear S5
       clear hb
       go_wp2_with fail
       refine hK.out _ _ ⟨Bag.cs3 S6.out 0 rfl, HK.out _ S6.out.old, HK2.out _ S6.out.old⟩ (fun hS => ?_)
       clear hK K
       try simp only [zp0, zp1, zp2, zp3, zp4]
       refine tk 36 rfl ?_
       try simp only [zp0, zp1, zp2, zp3, zp4]
       refine tk 37 rfl ?_
       try simp only [zp0, zp1, zp2, zp3, zp4]
       refine tk 38 rfl ?_
       try simp only [zp0, zp1, zp2, zp3, zp4]
       refine wpAnyH_done (by kernel_rfl) ?_ _
       obtain ⟨f0, f1, f2⟩ := Bag.cs3 S6.out 0 rfl
       obtain ⟨f3, f4, f5, f6⟩ := HK.out _ S6.out.old
       obtain ⟨f7, f8, f9, f10⟩ := HK2.out _ S6.out.old
       have HNO := Lib.hid (show isI (conI xs) = false from isI_no k hci (by rw [okIx_at HC.out, HKM.out, behind_at HC2.out]; dsimp only; rw [HBK.out, HBR.out, HCV.out]; simpa using hc2))
       go_wp2_with fail
       go_ret
       exact ⟨by unfold isS; rw [HNO.out]; rfl, S6.out.old⟩
  ·
   skip
   obtain rfl : k = N := by omega
   have HI := Lib.hid (isI_all (xs := conI xs) (fun i hi => HA.out i (by rw [conI_length] at hi; have := HN.out; omega)))
   obtain ⟨bn, hbn⟩ : ∃ b, isN name.data.toList = b := ⟨_, rfl⟩
   have HIN := fun w => L5.specIsName_any name HNM.out w
   rw [hbn] at HIN
   replace HIN := Lib.hid HIN
   obtain ⟨ba, hba⟩ : ∃ b, L1.inB auto 0 1000000 = b := ⟨_, rfl⟩
   have HIA := fun w => L1.l1In_any auto 0 1000000 w
   rw [hba] at HIA
   replace HIA := Lib.hid HIA
   have HE := Lib.hid (show isS ⟨name, conI xs, auto⟩ = (bn && (decide (k ≤ 16) && ba)) from by unfold isS; rw [HI.out, hbn, hba, conI_length, ← HN.out]; rfl)
   clear hbn hba
   obtain ⟨f0, f1, f2⟩ := Bag.cs3 S2.out 0 rfl
   cases bn with
   | false =>
    go_wp2_with fail
    go_at_call 109
    refine (HIN.out _).mono ?_
    rintro e w1 ⟨rfl, rfl⟩
    go_wp2_with fail
    go_ret
    exact ⟨by rw [HE.out]; rfl, S2.out.old⟩
   | true =>
    go_wp2_with fail
    go_at_call 109
    refine (HIN.out _).mono ?_
    rintro e w1 ⟨rfl, rfl⟩
    by_cases h16 : (k : Int) ≤ 16
    ·
     have h16' : k ≤ 16 := by omega
     go_wp2_with fail
     go_at_call 91
     refine (HIA.out _).mono ?_
     rintro e w2 ⟨rfl, rfl⟩
     go_wp2_with fail
     go_ret
     exact ⟨by rw [HE.out, decide_eq_true h16']; rfl, S2.out.old⟩
    ·
     have h16' : ¬ k ≤ 16 := by omega
     go_wp2_with fail
     go_ret
     exact ⟨by rw [HE.out, decide_eq_false h16']; rfl, S2.out.old⟩
end Go.Proofs.Ytojcdmgcbgpdmaa.L6

namespace Go.Proofs.Ytojcdmgcbgpdmaa.L5
open L2
open L4 (toU toI toI_toU)

def rdF (l : List Int) (off : Int) : Option (F × Int) :=
 if rbB l off 8 && rdB l (rbE l off 8) then some (⟨⟨(toU (rbL l off 8)).toArray⟩, rdN l (rbE l off 8)⟩, rdE l (rbE l off 8)) else none
def rdFs (l : List Int) : Int → Nat → Option (List F × Int)
 | off, 0 => some ([], off)
 | off, k + 1 => match rdF l off with
  | none => none
  | some (f, e) => match rdFs l e k with
   | none => none
   | some (fs, e2) => some (f :: fs, e2)
def RfMid (l : List Int) (off : Int) (n k : Nat) (acc : List F) (o : Int) : Prop := acc.length = k ∧ rdFs l off n = (rdFs l o (n - k)).map fun p => (acc ++ p.1, p.2)
theorem RfMid.start (l : List Int) (off : Int) (n : Nat) : RfMid l off n 0 [] off := ⟨rfl, by simp⟩
theorem RfMid.none {l : List Int} {off : Int} {n k : Nat} {acc : List F} {o : Int} (h : RfMid l off n k acc o) (hk : k < n) (hr : rdF l o = Option.none) : rdFs l off n = Option.none := by
 rw [h.2, show n - k = (n - (k + 1)) + 1 by omega, rdFs, hr]
 rfl
end Go.Proofs.Ytojcdmgcbgpdmaa.L5

namespace Go.Proofs.Ytojcdmgcbgpdmaa.L5
open L4 (boxR push_box box_at)
open Go.ChangeShapes Go.WideShapes Go.ChangeAt Go.RowKit Mem Sl Ex L2 Sv

theorem wpList_append_v {P : Program} {W w : World} {rs : List Res} {e : TypeId} {k : Nat} {a : Option Addr} {c n : Nat} {xs : List Value} (S : Sep W w rs) (j : Nat) (hj : rs[j]? = some (ownV e k a c n xs))
  {ops : Array Oper} {rest : List Oper} {o : Oper} {act : Act} {Q : Exit → Act → World → Prop} (hgd : o.guard = none) (s x : Operand) (t : TypeId)
  (ho : o.op = .call { callee := .builtin .append, args := #[s, x], argTypes := #[t, t] })
  (i : TypeInfo) (z : Value) (bytes : Nat) (ht : P.underlying t = some (.slice e)) (hi : P.info? e = some i) (hz : i.zero = some z)
  (hsize : i.size = k) (hby : i.bytes = bytes) (hzs : z.cells.size = k) (hk : 0 < k) (n1 : Nat) (hs : act.eval s = .slice a n1 c) (hn : n1 = n)
  (B' : Nat) (A : Option Addr) (m m1 c' : Nat) (ys : List Value) (hx : act.eval x = .slice A m1 c') (hm : m1 = m) (hr : Reads w B' A ys) (hy : ys.length = m * k) (hone : ∀ u ∈ ys, u.oneCell' = true)
  (h63 : n + m ≤ maxLen) (hbytes : (n + m) * bytes ≤ 140737488355328)
  (h : ∀ a1 c1 w', Sep W w' (rs.set j (ownV e k a1 c1 (n + m) (xs ++ ys))) → wpList P ops Q rest (act.put o.dst (.slice a1 (n + m) c1)) w') : wpList P ops Q (o :: rest) act w := by
 subst hn
 subst hm
 refine wpList_plain hgd fun K hK => ?_
 obtain ⟨a1, c1, w', hrun, h2, h3, h4⟩ := run_append_rows (P := P) w 0 t o.type e i z k bytes ht hi hz hsize hby hzs hk a c n1 xs (own_at S j hj) B' A c' m1 ys hr hy hone h63 hbytes (Nat.zero_le _)
 unfold Oper.wp execOp
 simp only [ho, resolve, invoke, builtin, Sem.run_bind, Sem.run_pure, Result.andThen_ok, List.map_toArray, List.map_cons, List.map_nil, hs, hx, hrun]
 refine hK _ _ (h a1 c1 w' (Sd.put_new S j hj (Turned.of_grown h3) h2 fun b hb => ?_))
 have hb' : (Value.slice a1 (n1 + m1) c1).ownBlock = some b := by simpa [ownV] using hb
 rcases h4 b hb' with h5 | rfl
 ·
  exact .inl (by simp [ownV, h5])
 ·
  have := World.ownsRow.lt h2 _ hb'
  exact .inr ⟨Nat.le_refl _, this.2⟩
end Go.Proofs.Ytojcdmgcbgpdmaa.L5

set_option linter.unusedSimpArgs false
namespace Go.Proofs.Ytojcdmgcbgpdmaa.L6
open L4 (K isK cmpK R inR encU)
open L5 (F isR isN cellsF encR eqR Small)
open Go.ChangeShapes Go.WideShapes Go.ChangeAt Go.RowKit Mem Sl Ex L2 Sv Bag

theorem cellsI_set3 : ∀ (xs : List LI) (i : Nat) (hi : i < xs.length) (a : Option Addr) (c : Nat) (l : List F), (cellsI xs).set (i * 4 + 3) (.slice a l.length c) = cellsI (xs.set i ⟨xs[i].k, a, c, l⟩)
 | x :: xs, 0, _, a, c, l => rfl
 | x :: xs, i + 1, h, a, c, l => by
  rw [List.set_cons_succ, cellsI_cons, cellsI_cons, List.getElem_cons_succ, ← cellsI_set3 xs i (by simpa using h) a c l, show (i + 1) * 4 + 3 = i * 4 + 3 + 1 + 1 + 1 + 1 by omega]
  rfl
theorem cellsI_set3m (xs : List LI) (i : Nat) (hi : i < xs.length) (a : Option Addr) (c : Nat) (l : List F) (M : Nat) (hM : M = l.length) : (cellsI xs).set (i * 4 + 3) (.slice a M c) = cellsI (xs.set i ⟨xs[i].k, a, c, l⟩) := by
 subst hM
 exact cellsI_set3 xs i hi a c l
theorem bag_swap {W w : World} {rs : List Res} {xs : List RowS} {z : RowS} (h : Sep W w rs) (j : Nat) (hj : rs[j]? = some (bag (xs ++ [z]))) (i : Nat) (hi : i < xs.length) : Sep W w (rs.set j (bag (xs.set i z))) := by
 have e1 : xs.set i z = xs.take i ++ z :: xs.drop (i + 1) := List.set_eq_take_append_cons_drop ▸ by rw [if_pos hi]
 have e2 : xs.eraseIdx i = xs.take i ++ xs.drop (i + 1) := List.eraseIdx_eq_take_drop_succ ..
 have hp : (xs.eraseIdx i ++ [z]).Perm (xs.set i z) := by
  rw [e1, e2, List.append_assoc]
  refine List.Perm.append_left _ ?_
  exact List.perm_append_comm
 have hs : (xs.eraseIdx i ++ [z]).Sublist (xs ++ [z]) := (List.eraseIdx_sublist xs i).append (List.Sublist.refl _)
 refine turn h j hj (fun ho => (BagOwn.sub ho hs).perm hp) (fun b hb => ?_)
 obtain ⟨r, hr, hm⟩ := List.mem_flatMap.1 hb
 exact List.mem_flatMap.2 ⟨r, hs.subset (hp.mem_iff.2 hr), hm⟩
theorem rowsI_ins (ys : List LI) (k : Nat) (z : LI) : (rowsI ys ++ [z.row]).Perm (rowsI (ys.take k ++ z :: ys.drop k)) := by
 have e : rowsI ys = rowsI (ys.take k) ++ rowsI (ys.drop k) := by rw [← rowsI_append, List.take_append_drop]
 rw [e, rowsI_append, List.append_assoc]
 exact List.Perm.append_left _ List.perm_append_comm
theorem cellsI_take : ∀ (ys : List LI) (k : Nat), (cellsI ys).take (k * 4) = cellsI (ys.take k)
 | [], k => by simp [cellsI]
 | y :: ys, 0 => by simp [cellsI]
 | y :: ys, k + 1 => by
  rw [List.take_succ_cons, cellsI_cons, cellsI_cons, ← cellsI_take ys k, show (k + 1) * 4 = k * 4 + 1 + 1 + 1 + 1 by omega]
  rfl
theorem cellsI_drop : ∀ (ys : List LI) (k : Nat), (cellsI ys).drop (k * 4) = cellsI (ys.drop k)
 | [], k => by simp [cellsI]
 | y :: ys, 0 => by simp
 | y :: ys, k + 1 => by
  rw [List.drop_succ_cons, cellsI_cons, ← cellsI_drop ys k, show (k + 1) * 4 = k * 4 + 1 + 1 + 1 + 1 by omega]
  rfl
theorem reads_head {w : World} {B : Nat} {a : Option Addr} {ys : List LI} (h : Reads w B a (cellsI ys)) (k : Nat) : Reads w B a (cellsI (ys.take k)) := fun j hj => by
 have hk : cellsI (ys.take k) = (cellsI ys).take (k * 4) := (cellsI_take ys k).symm
 have h2 : (cellsI (ys.take k))[j] = ((cellsI ys).take (k * 4))[j]'(by rw [← hk]; exact hj) := by simp only [hk]
 have h3 : j < (cellsI ys).length := by rw [hk, List.length_take] at hj; omega
 obtain ⟨ad, e, hb, hc⟩ := h j h3
 exact ⟨ad, e, hb, by rw [hc, h2, List.getElem_take]⟩
theorem reads_tail {w : World} {B : Nat} {ad : Addr} {ys : List LI} (h : Reads w B (some ad) (cellsI ys)) (k : Nat) : Reads w B (some (ad.add (k * 4))) (cellsI (ys.drop k)) := fun j hj => by
 have hk : cellsI (ys.drop k) = (cellsI ys).drop (k * 4) := (cellsI_drop ys k).symm
 have h2 : (cellsI (ys.drop k))[j] = ((cellsI ys).drop (k * 4))[j]'(by rw [← hk]; exact hj) := by simp only [hk]
 have h3 : k * 4 + j < (cellsI ys).length := by rw [hk, List.length_drop] at hj; omega
 obtain ⟨ad', e, hb, hc⟩ := h (k * 4 + j) h3
 injection e with e
 subst e
 exact ⟨ad.add (k * 4), rfl, by rw [add_block]; exact hb, by rw [add_add, hc, h2, List.getElem_drop]⟩
theorem reads_rest2 {w : World} {B g : Nat} {ys : List LI} (h : Reads w B (some ⟨g, 0, none⟩) (cellsI ys)) (k : Nat) : Reads w B (some ⟨g, k * 4, none⟩) (cellsI (ys.drop k)) := by
 have := reads_tail h k
 rwa [Addr.add_lit, Nat.zero_add] at this
theorem rowsI_set (xs : List LI) (i : Nat) (z : LI) : rowsI (xs.set i z) = (rowsI xs).set i z.row := List.map_set
theorem conI_ins (ys : List LI) (k : Nat) (z : LI) : conI (ys.take k ++ z :: ys.drop k) = (conI ys).take k ++ z.con :: (conI ys).drop k := by
 unfold conI
 rw [List.map_append, List.map_cons, List.map_take, List.map_drop]
theorem conI_set (xs : List LI) (i : Nat) (z : LI) : conI (xs.set i z) = (conI xs).set i z.con := List.map_set

set_option maxHeartbeats 16000000 in
theorem specPutItem_any (y : LS) (k0 : K) (ra : Option Addr) (rc : Nat) (rl : List F) (hf : FitS y.con) (hkt : k0.text.size ≤ 1099511627776) (hrl : rl.length ≤ 1048576) (hrs : Small rl) (w : World) (hr : RowsRd w w.heap.size y.rows) (hrr : Reads w w.heap.size ra (cellsF rl)) :
  Calls Try.prog 19 #[y.v, k0.v, .agg #[.slice ra rl.length rc]] w (GaveSB w (putI y.con k0 rl).1 (putI y.con k0 rl).2) := by
 obtain ⟨i0, hi1, hi2, hi3, hi4⟩ := itemInfo
 have HI := Lib.hid (And.intro hi1 (And.intro hi2 (And.intro hi3 hi4)))
 clear hi1 hi2 hi3 hi4
 obtain ⟨pk, pn, pt⟩ := k0
 unfold L4.K.v
 try dsimp only at hkt ⊢
 have HIS := Lib.hid (fun w' (h : Below w.heap.size w w') => specIsStore_any y hf w' ((hr.below h).more h.size))
 have HCP := Lib.hid (fun w' (h : Below w.heap.size w w') => l6Copy_any y hf w' ((hr.below h).more h.size))
 have HFD := Lib.hid (fun w' (h : Below w.heap.size w w') => specFindItem_any y ⟨pk, pn, pt⟩ hf w' ((hr.below h).more h.size))
 have HRC := Lib.hid (fun w' (h : Below w.heap.size w w') => L5.l5Copy_any ra rc rl (by omega) w' ((hrr.below h).more h.size))
 have HIR := Lib.hid (fun w' (h : Below w.heap.size w w') => L5.specIsRecord_any ra rc rl (by omega) hrs w' ((hrr.below h).more h.size))
 have HIK := Lib.hid (fun w' => L4.specIsKey_any ⟨pk, pn, pt⟩ (by show pt.size ≤ _; omega) w')
 obtain ⟨name, a, c, xs, auto⟩ := y
 have HR := Lib.hid (fun w' (h : Below w.heap.size w w') => LS.outer (hr.below h))
 have HX := Lib.hid (fun w' (h : Below w.heap.size w w') => (LS.inner (hr.below h)).more h.size)
 have HF := Lib.hid hf.items
 have HNM := Lib.hid hf.name
 have hl := hf.len
 simp only [LS.con, conI_length] at hl
 dsimp only [LS.con] at HR HX HF HNM
 try unfold LS.v LS.cells LS.con
 try dsimp only
 obtain ⟨N, hN⟩ : ∃ n, n = xs.length := ⟨_, rfl⟩
 rw [← hN] at hl ⊢
 have hl' : (N : Int) ≤ 1048576 := by omega
 have HN := Lib.hid hN
 clear hN hr hf
 dsimp only [LS.v, LS.cells, LS.con] at HIS HCP HFD
 rw [← HN.out] at HIS HCP HFD
 obtain ⟨M, hM⟩ : ∃ M, M = rl.length := ⟨_, rfl⟩
 rw [← hM] at HRC HIR ⊢
 have HM := Lib.hid hM
 clear hM hrr
 obtain ⟨bs, hbs⟩ : ∃ b, isS ⟨name, conI xs, auto⟩ = b := ⟨_, rfl⟩
 obtain ⟨bk, hbk⟩ : ∃ b, isK ⟨pk, pn, pt⟩ = b := ⟨_, rfl⟩
 obtain ⟨br, hbr⟩ : ∃ b, isR rl = b := ⟨_, rfl⟩
 rw [hbs] at HIS
 rw [hbk] at HIK
 rw [hbr] at HIR
 obtain ⟨res, hres⟩ : ∃ r, putI ⟨name, conI xs, auto⟩ ⟨pk, pn, pt⟩ rl = r := ⟨_, rfl⟩
 rw [hres]
 have HBS := Lib.hid hbs
 have HP := Lib.hid (show res = if bs && (bk && br) then (match fndO (conI xs) ⟨pk, pn, pt⟩ with | some i => (⟨name, (conI xs).set i ⟨⟨pk, pn, pt⟩, rl⟩, auto⟩, true) | none => if 16 ≤ (conI xs).length then (⟨name, conI xs, auto⟩, false) else (⟨name, (conI xs).take (posI (conI xs) ⟨pk, pn, pt⟩) ++ ⟨⟨pk, pn, pt⟩, rl⟩ :: (conI xs).drop (posI (conI xs) ⟨pk, pn, pt⟩), nextAuto auto ⟨pk, pn, pt⟩⟩, true)) else (⟨name, conI xs, auto⟩, false) from by rw [← hres]; unfold putI; rw [hbs, hbk, hbr]; rfl)
 clear hres hbs hbk hbr
 have S1 := Lib.hid (show Sl.Sep w _ [_, _, _, _] from L4.push_box (L4.push_box (L4.push_box (L4.push_box (Sl.Sep.start w) 26 #[.string name, .slice a N c, .int .i64 auto] (w.heap.size) (by simp)) 28 #[.int .i64 pk, .int .i64 pn, .string pt] (w.heap.size + 1) (by simp)) 31 #[.slice ra M rc] (w.heap.size + 1 + 1) (by simp)) 26 #[.string ⟨#[]⟩, .slice none 0 0, .int .i64 0] (w.heap.size + 1 + 1 + 1) (by simp))
 obtain ⟨wa, hwa⟩ : ∃ u, u = ((((w.alloc (.cells #[.string name, .slice a N c, .int .i64 auto] 26)).alloc (.cells #[.int .i64 pk, .int .i64 pn, .string pt] 28)).alloc (.cells #[.slice ra M rc] 31)).alloc (.cells #[.string ⟨#[]⟩, .slice none 0 0, .int .i64 0] 26)) := ⟨_, rfl⟩
 rw [← hwa] at S1
 go_enter Try.func19, Try.ntmps19
 go_upto_region 1 with fail
 rw [← hwa]
 clear hwa
 obtain ⟨f0, f1, f2⟩ := Bag.cs3 S1.out 0 rfl
 obtain ⟨f3, f4, f5⟩ := Bag.cs3 S1.out 1 rfl
 have f6 := Bag.cs1 S1.out 2 rfl
 obtain ⟨f7, f8, f9⟩ := Bag.cs3 S1.out 3 rfl
 go_wp2_with fail
 go_at_call 29
 refine (HIS.out _ S1.out.old).mono ?_
 rintro e w1 ⟨rfl, hb⟩
 clear f0 f1 f2 f3 f4 f5 f6 f7 f8 f9
 have S2 := Lib.hid (S1.out.keep hb)
 clear S1
 clear hb
 obtain ⟨f0, f1, f2⟩ := Bag.cs3 S2.out 0 rfl
 obtain ⟨f3, f4, f5⟩ := Bag.cs3 S2.out 1 rfl
 have f6 := Bag.cs1 S2.out 2 rfl
 obtain ⟨f7, f8, f9⟩ := Bag.cs3 S2.out 3 rfl
 cases bs with
 | false =>
  go_wp2_with fail
  go_at_call 87
  refine (HCP.out _ S2.out.old).mono ?_
  rintro e w2 ⟨⟨nm3, a3, c3, ys, au3⟩, rfl, hcon, ho, hb⟩
  clear f0 f1 f2 f3 f4 f5 f6 f7 f8 f9
  have S3 := Lib.hid (show Sl.Sep w _ [L4.boxR w.heap.size 26 #[.string name, .slice a N c, .int .i64 auto], L4.boxR (w.heap.size + 1) 28 #[.int .i64 pk, .int .i64 pn, .string pt], L4.boxR (w.heap.size + 1 + 1) 31 #[.slice ra M rc], L4.boxR (w.heap.size + 1 + 1 + 1) 26 #[.string ⟨#[]⟩, .slice none 0 0, .int .i64 0], Bag.bag ((LS.mk nm3 a3 c3 ys au3).rows)] from Bag.push_bag S2.out hb ho)
  clear S2
  clear hb ho
  have HCON := Lib.hid hcon
  clear hcon
  simp only [LS.v, LS.cells]
  obtain ⟨f0, f1, f2⟩ := Bag.cs3 S3.out 3 rfl
  obtain ⟨z0, z1, z2⟩ := Bag.fs3 S3.out 3 rfl
  go_wp2_with fail
  clear f0 f1 f2 z0 z1 z2
  have S4 := Lib.hid (show Sl.Sep w _ [_, _, _, L4.boxR (w.heap.size + 1 + 1 + 1) 26 #[.string nm3, .slice a3 ys.length c3, .int .i64 au3], _] from L5.put_box5 (L5.put_box5 (L5.put_box5 (S3.out) 3 rfl 0 (.string nm3)) 3 rfl 1 (.slice a3 ys.length c3)) 3 rfl 2 (.int .i64 au3))
  clear S3
  obtain ⟨f0, f1, f2⟩ := Bag.cs3 S4.out 3 rfl
  refine bodyPost_ret (v := .tuple #[.agg #[.string nm3, .slice a3 ys.length c3, .int .i64 au3], .bool false]) (by simp [results, Try.results19, go_sem, *]) rfl ?_
  have HE := Lib.hid (show res = (⟨name, conI xs, auto⟩, false) from by rw [HP.out]; rfl)
  exact ⟨⟨nm3, a3, c3, ys, au3⟩, by rw [HE.out]; rfl, by rw [HE.out]; exact HCON.out, Bag.bag_from S4.out 4 rfl, S4.out.old⟩
 | true =>
  go_wp2_with fail
  go_at_call 85
  refine (HIK.out _).mono ?_
  rintro e w2 ⟨rfl, hb⟩
  clear f0 f1 f2 f3 f4 f5 f6 f7 f8 f9
  have S3 := Lib.hid (S2.out.keep hb)
  clear S2
  clear hb
  obtain ⟨f0, f1, f2⟩ := Bag.cs3 S3.out 0 rfl
  obtain ⟨f3, f4, f5⟩ := Bag.cs3 S3.out 1 rfl
  have f6 := Bag.cs1 S3.out 2 rfl
  obtain ⟨f7, f8, f9⟩ := Bag.cs3 S3.out 3 rfl
  cases bk with
  | false =>
   go_wp2_with fail
   go_at_call 87
   refine (HCP.out _ S3.out.old).mono ?_
   rintro e w3 ⟨⟨nm3, a3, c3, ys, au3⟩, rfl, hcon, ho, hb⟩
   clear f0 f1 f2 f3 f4 f5 f6 f7 f8 f9
   have S4 := Lib.hid (show Sl.Sep w _ [_, _, _, _, _] from Bag.push_bag S3.out hb ho)
   clear S3
   clear hb ho
   have HCON := Lib.hid hcon
   clear hcon
   simp only [LS.v, LS.cells]
   obtain ⟨f0, f1, f2⟩ := Bag.cs3 S4.out 3 rfl
   obtain ⟨z0, z1, z2⟩ := Bag.fs3 S4.out 3 rfl
   go_wp2_with fail
   clear f0 f1 f2 z0 z1 z2
   have S5 := Lib.hid (show Sl.Sep w _ [_, _, _, L4.boxR (w.heap.size + 1 + 1 + 1) 26 #[.string nm3, .slice a3 ys.length c3, .int .i64 au3], _] from L5.put_box5 (L5.put_box5 (L5.put_box5 (S4.out) 3 rfl 0 (.string nm3)) 3 rfl 1 (.slice a3 ys.length c3)) 3 rfl 2 (.int .i64 au3))
   clear S4
   obtain ⟨f0, f1, f2⟩ := Bag.cs3 S5.out 3 rfl
   refine bodyPost_ret (v := .tuple #[.agg #[.string nm3, .slice a3 ys.length c3, .int .i64 au3], .bool false]) (by simp [results, Try.results19, go_sem, *]) rfl ?_
   have HE := Lib.hid (show res = (⟨name, conI xs, auto⟩, false) from by rw [HP.out]; rfl)
   exact ⟨⟨nm3, a3, c3, ys, au3⟩, by rw [HE.out]; rfl, by rw [HE.out]; exact HCON.out, Bag.bag_from S5.out 4 rfl, S5.out.old⟩
  | true =>
   go_wp2_with fail
   go_at_call 86
   refine (HIR.out _ S3.out.old).mono ?_
   rintro e w3 ⟨rfl, hb⟩
   clear f0 f1 f2 f3 f4 f5 f6 f7 f8 f9
   have S4 := Lib.hid (S3.out.keep hb)
   clear S3
   clear hb
   obtain ⟨f0, f1, f2⟩ := Bag.cs3 S4.out 0 rfl
   obtain ⟨f3, f4, f5⟩ := Bag.cs3 S4.out 1 rfl
   have f6 := Bag.cs1 S4.out 2 rfl
   obtain ⟨f7, f8, f9⟩ := Bag.cs3 S4.out 3 rfl
   cases br with
   | false =>
    go_wp2_with fail
    go_at_call 87
    refine (HCP.out _ S4.out.old).mono ?_
    rintro e w4 ⟨⟨nm3, a3, c3, ys, au3⟩, rfl, hcon, ho, hb⟩
    clear f0 f1 f2 f3 f4 f5 f6 f7 f8 f9
    have S5 := Lib.hid (show Sl.Sep w _ [_, _, _, _, _] from Bag.push_bag S4.out hb ho)
    clear S4
    clear hb ho
    have HCON := Lib.hid hcon
    clear hcon
    simp only [LS.v, LS.cells]
    obtain ⟨f0, f1, f2⟩ := Bag.cs3 S5.out 3 rfl
    obtain ⟨z0, z1, z2⟩ := Bag.fs3 S5.out 3 rfl
    go_wp2_with fail
    clear f0 f1 f2 z0 z1 z2
    have S6 := Lib.hid (show Sl.Sep w _ [_, _, _, L4.boxR (w.heap.size + 1 + 1 + 1) 26 #[.string nm3, .slice a3 ys.length c3, .int .i64 au3], _] from L5.put_box5 (L5.put_box5 (L5.put_box5 (S5.out) 3 rfl 0 (.string nm3)) 3 rfl 1 (.slice a3 ys.length c3)) 3 rfl 2 (.int .i64 au3))
    clear S5
    obtain ⟨f0, f1, f2⟩ := Bag.cs3 S6.out 3 rfl
    refine bodyPost_ret (v := .tuple #[.agg #[.string nm3, .slice a3 ys.length c3, .int .i64 au3], .bool false]) (by simp [results, Try.results19, go_sem, *]) rfl ?_
    have HE := Lib.hid (show res = (⟨name, conI xs, auto⟩, false) from by rw [HP.out]; rfl)
    exact ⟨⟨nm3, a3, c3, ys, au3⟩, by rw [HE.out]; rfl, by rw [HE.out]; exact HCON.out, Bag.bag_from S6.out 4 rfl, S6.out.old⟩
   | true =>
    replace HP := Lib.hid (show res = _ from HP.out)
    simp only [Bool.and_self, if_true] at HP
    go_wp2_with fail
    go_at_call 87
    refine (HCP.out _ S4.out.old).mono ?_
    rintro e w4 ⟨⟨nm3, a3, c3, ys, au3⟩, rfl, hcon, ho, hb⟩
    clear f0 f1 f2 f3 f4 f5 f6 f7 f8 f9
    have S5 := Lib.hid (show Sl.Sep w _ [_, _, _, _, _] from Bag.push_bag S4.out hb ho)
    clear S4
    clear hb ho
    have HCON := Lib.hid hcon
    clear hcon
    simp only [LS.v, LS.cells]
    obtain ⟨e1, e2, e3⟩ : nm3 = name ∧ conI ys = conI xs ∧ au3 = auto := by have h := HCON.out; unfold LS.con at h; simp only [S6.mk.injEq] at h; exact h
    subst e1
    subst e3
    have HCE := Lib.hid e2
    have hyl : ys.length = N := by have h := congrArg List.length e2; simp only [conI_length] at h; rw [h]; exact HN.out.symm
    clear e2 HCON
    obtain ⟨f0, f1, f2⟩ := Bag.cs3 S5.out 0 rfl
    obtain ⟨f3, f4, f5⟩ := Bag.cs3 S5.out 1 rfl
    have f6 := Bag.cs1 S5.out 2 rfl
    obtain ⟨f7, f8, f9⟩ := Bag.cs3 S5.out 3 rfl
    rw [hyl]
    go_upto_region 4 with fail
    clear f0 f1 f2 f3 f4 f5 f6 f7 f8 f9
    have S6 := Lib.hid (show Sl.Sep w _ [_, _, _, _, _, _] from L4.push_box S5.out 26 #[.string nm3, .slice a3 N c3, .int .i64 au3] w4.heap.size rfl)
    clear S5
    obtain ⟨g1, hg⟩ : ∃ g', g' = w4.heap.size := ⟨_, rfl⟩
    rw [← hg] at S6 ⊢
    clear hg
    generalize w4.alloc (.cells #[.string nm3, .slice a3 N c3, .int .i64 au3] 26) = w5 at S6 ⊢
    obtain ⟨f0, f1, f2⟩ := Bag.cs3 S6.out 0 rfl
    obtain ⟨f3, f4, f5⟩ := Bag.cs3 S6.out 1 rfl
    have f6 := Bag.cs1 S6.out 2 rfl
    obtain ⟨f7, f8, f9⟩ := Bag.cs3 S6.out 3 rfl
    obtain ⟨f10, f11, f12⟩ := Bag.cs3 S6.out 5 rfl
    obtain ⟨fi, hfi⟩ : ∃ i, fndI (conI xs) ⟨pk, pn, pt⟩ = i := ⟨_, rfl⟩
    rw [hfi] at HFD
    have HFI := Lib.hid hfi
    clear hfi
    go_wp2_with fail
    go_at_call 88
    refine (HFD.out _ S6.out.old).mono ?_
    rintro e w6 ⟨rfl, hb⟩
    clear f0 f1 f2 f3 f4 f5 f6 f7 f8 f9 f10 f11 f12
    have S7 := Lib.hid (S6.out.keep hb)
    clear S6
    clear hb
    obtain ⟨f0, f1, f2⟩ := Bag.cs3 S7.out 0 rfl
    obtain ⟨f3, f4, f5⟩ := Bag.cs3 S7.out 1 rfl
    have f6 := Bag.cs1 S7.out 2 rfl
    obtain ⟨f7, f8, f9⟩ := Bag.cs3 S7.out 3 rfl
    obtain ⟨f10, f11, f12⟩ := Bag.cs3 S7.out 5 rfl
    cases hfo : fndO (conI xs) ⟨pk, pn, pt⟩ with
    | some i =>
     have hfi2 : fi = (i : Int) := by have h := HFI.out; unfold fndI at h; rw [hfo] at h; exact h.symm
     obtain ⟨hi, hki⟩ := fndO_some hfo
     subst hfi2
     have hiN : i < N := by rw [conI_length] at hi; have := HN.out; omega
     have hiy : i < ys.length := by omega
     have HE := Lib.hid (show res = (⟨nm3, (conI xs).set i ⟨⟨pk, pn, pt⟩, rl⟩, au3⟩, true) from by rw [HP.out, hfo])
     have HKI := Lib.hid (show ys[i].k = ⟨pk, pn, pt⟩ from by have h1 := con_of (List.getElem?_eq_getElem hiy); rw [HCE.out, List.getElem?_eq_getElem hi] at h1; have h2 := Option.some.inj h1; rw [h2] at hki; exact hki)
     clear hfo hki hi
     have hii : ((i : Nat) : Int) < (N : Int) := by omega
     clear f0 f1 f2 f3 f4 f5 f6 f7 f8 f9 f10 f11 f12
     have S8 := Lib.hid (show Sl.Sep w _ [L4.boxR w.heap.size 26 #[.string nm3, .slice a N c, .int .i64 au3], L4.boxR (w.heap.size + 1) 28 #[.int .i64 pk, .int .i64 pn, .string pt], L4.boxR (w.heap.size + 1 + 1) 31 #[.slice ra M rc], L4.boxR (w.heap.size + 1 + 1 + 1) 26 #[.string ⟨#[]⟩, .slice none 0 0, .int .i64 0], Bag.bag ([rowI a3 c3 ys] ++ rowsI ys), L4.boxR g1 26 #[.string nm3, .slice a3 N c3, .int .i64 au3]] from S7.out)
     clear S7
     have S9 := Lib.hid (show Sl.Sep w _ [_, _, _, _, Bag.bag ([rowI a3 c3 ys]), _, Bag.bag (rowsI ys)] from Bag.bag_split S8.out 4 rfl)
     clear S8
     have S10 := Lib.hid (show Sl.Sep w _ [_, _, _, _, Sv.ownV 40 4 a3 c3 N (cellsI ys), _, _] from (by have h := Bag.one_of_bag S9.out 4 (r := rowI a3 c3 ys) rfl; unfold RowS.res rowI at h; dsimp only at h; rw [hyl] at h; exact h))
     clear S9
     obtain ⟨g3, rfl⟩ : ∃ g, a3 = some ⟨g, 0, none⟩ := by
      rcases (Sv.own_at S10.out 4 rfl).form with ⟨_, h0, _⟩ | ⟨g, e, _⟩
      ·
       omega
      ·
       exact ⟨g, e⟩
     obtain ⟨f0, f1, f2⟩ := Bag.cs3 S10.out 0 rfl
     obtain ⟨f3, f4, f5⟩ := Bag.cs3 S10.out 1 rfl
     have f6 := Bag.cs1 S10.out 2 rfl
     obtain ⟨f7, f8, f9⟩ := Bag.cs3 S10.out 3 rfl
     obtain ⟨f10, f11, f12⟩ := Bag.cs3 S10.out 5 rfl
     go_upto_region 6 with fail
     clear f0 f1 f2 f3 f4 f5 f6 f7 f8 f9 f10 f11 f12
     refine wp_region_held_drew (S := (fun w' => (w'.cell? ⟨w.heap.size + 1 + 1, 0, none⟩ = some (.slice ra M rc)) ∧ (w'.cell? ⟨g1, 0, none⟩ = some (.string nm3) ∧ w'.cell? ⟨g1, 1, none⟩ = some (.slice (some ⟨g3, 0, none⟩) N c3) ∧ w'.cell? ⟨g1, 2, none⟩ = some (.int .i64 au3)))) (by kernel_rfl) ⟨Bag.cs1 (Bag.drew1 S10.out) 2 rfl, Bag.cs3 (Bag.drew1 S10.out) 5 rfl⟩ (fun hS => ?_)
     have S11 := Lib.hid (Bag.drew1 S10.out)
     clear S10
     generalize World.drew _ = w7 at hS S11 ⊢
     refine tk 0 rfl ?_
     try simp only [zp0, zp1, zp2, zp3, zp4]
     refine tk 1 rfl ?_
     try simp only [zp0, zp1, zp2, zp3, zp4]
     refine tk 2 rfl ?_
     try simp only [zp0, zp1, zp2, zp3, zp4]
     refine tk 3 rfl ?_
     try simp only [zp0, zp1, zp2, zp3, zp4]
     refine Reg.one_op (i := 4) rfl (by kernel_rfl) (fun K hK => ?_)
     go_simp
     go_at_call 89
     refine (HRC.out _ S11.out.old).mono ?_
     rintro e w8 ⟨a1, c1, rfl, ho, hb⟩
     have S12 := Lib.hid (show Sl.Sep w _ [_, _, _, _, _, _, _, Sv.ownV 128 2 a1 c1 M (cellsF rl)] from Sv.push_own S11.out hb ho)
     clear S11
     clear hb ho
     go_wp2_with fail
     refine hK.out _ _ ⟨Bag.cs1 S12.out 2 rfl, Bag.cs3 S12.out 5 rfl⟩ (fun hS => ?_)
     clear hK K
     try simp only [zp0, zp1, zp2, zp3, zp4]
     refine tk 5 rfl ?_
     try simp only [zp0, zp1, zp2, zp3, zp4]
     refine tk 6 rfl ?_
     try simp only [zp0, zp1, zp2, zp3, zp4]
     refine Reg.one_op (i := 7) rfl (by kernel_rfl) (fun K hK => ?_)
     have q0 := (Sv.own_at S12.out 4 rfl).cell (i * 4 + 3) (by rw [cellsI_length]; omega)
     have q1 := (Sv.own_at S12.out 4 rfl).free (i * 4 + 3)
     go_simp
     clear q0 q1
     have S13 := Lib.hid (show Sl.Sep w (w8.setCell ⟨g3, i * 4 + 3, none⟩ (.slice a1 M c1)) [_, _, _, _, Sv.ownV 40 4 (some ⟨g3, 0, none⟩) c3 N (cellsI (ys.set i ⟨ys[i].k, a1, c1, rl⟩)), _, _, _] from (by have h := Sv.set_own S12.out 4 rfl (i * 4 + 3) (by rw [cellsI_length]; omega) (.slice a1 M c1); rw [cellsI_set3m ys i hiy a1 c1 rl M HM.out] at h; exact h))
     clear S12
     refine hK.out _ _ ⟨Bag.cs1 S13.out 2 rfl, Bag.cs3 S13.out 5 rfl⟩ (fun hS => ?_)
     clear hK K
     try simp only [zp0, zp1, zp2, zp3, zp4]
     refine wpAnyH_done (by kernel_rfl) ?_ _
     obtain ⟨f0, f1, f2⟩ := Bag.cs3 S13.out 0 rfl
     obtain ⟨f3, f4, f5⟩ := Bag.cs3 S13.out 1 rfl
     have f6 := Bag.cs1 S13.out 2 rfl
     obtain ⟨f7, f8, f9⟩ := Bag.cs3 S13.out 3 rfl
     obtain ⟨f10, f11, f12⟩ := Bag.cs3 S13.out 5 rfl
     clear f0 f1 f2 f3 f4 f5 f6 f7 f8 f9 f10 f11 f12
     obtain ⟨f0, f1, f2⟩ := Bag.cs3 S13.out 3 rfl
     obtain ⟨f3, f4, f5⟩ := Bag.cs3 S13.out 5 rfl
     obtain ⟨z0, z1, z2⟩ := Bag.fs3 S13.out 3 rfl
     go_wp2_with fail
     clear f0 f1 f2 f3 f4 f5 z0 z1 z2
     have S14 := Lib.hid (show Sl.Sep w _ [_, _, _, L4.boxR (w.heap.size + 1 + 1 + 1) 26 #[.string nm3, .slice (some ⟨g3, 0, none⟩) N c3, .int .i64 au3], _, _, _, _] from L5.put_box5 (L5.put_box5 (L5.put_box5 (S13.out) 3 rfl 0 (.string nm3)) 3 rfl 1 (.slice (some ⟨g3, 0, none⟩) N c3)) 3 rfl 2 (.int .i64 au3))
     clear S13
     obtain ⟨f0, f1, f2⟩ := Bag.cs3 S14.out 3 rfl
     refine bodyPost_ret (v := .tuple #[.agg #[.string nm3, .slice (some ⟨g3, 0, none⟩) N c3, .int .i64 au3], .bool true]) (by simp [results, Try.results19, go_sem, *]) rfl ?_
     clear f0 f1 f2
     have hM := HM.out
     subst hM
     have S90 := Lib.hid (Bag.bag_of_one S14.out 7 (r := (LI.mk ys[i].k a1 c1 rl).row) rfl)
     have S91 := Lib.hid (Bag.bag_join S90.out 6 7 (by decide) rfl rfl)
     have S92 := Lib.hid (bag_swap S91.out 6 rfl i (by unfold rowsI; rw [List.length_map]; exact hiy))
     have S93 := Lib.hid (Bag.bag_of_one S92.out 4 (r := rowI (some ⟨g3, 0, none⟩) c3 (ys.set i ⟨ys[i].k, a1, c1, rl⟩)) (by unfold RowS.res rowI; dsimp only; rw [List.length_set, hyl]; rfl))
     have S94 := Lib.hid (Bag.bag_join S93.out 4 6 (by decide) rfl rfl)
     refine ⟨⟨nm3, some ⟨g3, 0, none⟩, c3, ys.set i ⟨ys[i].k, a1, c1, rl⟩, au3⟩, ?_, ?_, ?_, S94.out.old⟩
     ·
      rw [HE.out]; unfold LS.v LS.cells; dsimp only; rw [List.length_set, hyl]
     ·
      rw [HE.out]; unfold LS.con; dsimp only; rw [conI_set, HCE.out]; unfold LI.con; dsimp only; rw [HKI.out]
     ·
      have h := Bag.bag_from S94.out 4 rfl
      unfold LS.rows; rw [rowsI_set]; exact h
    | none =>
     have hfi2 : fi = -1 := by have h := HFI.out; unfold fndI at h; rw [hfo] at h; exact h.symm
     subst hfi2
     by_cases h16 : (16 : Int) ≤ (N : Int)
     ·
      have HE := Lib.hid (show res = (⟨nm3, conI xs, au3⟩, false) from by rw [HP.out, hfo]; dsimp only; rw [if_pos (by rw [conI_length, ← HN.out]; omega)])
      clear hfo
      go_upto_region 9 with fail
      clear f0 f1 f2 f3 f4 f5 f6 f7 f8 f9 f10 f11 f12
      obtain ⟨f0, f1, f2⟩ := Bag.cs3 S7.out 3 rfl
      obtain ⟨f3, f4, f5⟩ := Bag.cs3 S7.out 5 rfl
      obtain ⟨z0, z1, z2⟩ := Bag.fs3 S7.out 3 rfl
      go_wp2_with fail
      clear f0 f1 f2 f3 f4 f5 z0 z1 z2
      have S8 := Lib.hid (show Sl.Sep w _ [L4.boxR w.heap.size 26 #[.string nm3, .slice a N c, .int .i64 au3], L4.boxR (w.heap.size + 1) 28 #[.int .i64 pk, .int .i64 pn, .string pt], L4.boxR (w.heap.size + 1 + 1) 31 #[.slice ra M rc], L4.boxR (w.heap.size + 1 + 1 + 1) 26 #[.string nm3, .slice a3 N c3, .int .i64 au3], Bag.bag ((LS.mk nm3 a3 c3 ys au3).rows), L4.boxR g1 26 #[.string nm3, .slice a3 N c3, .int .i64 au3]] from L5.put_box5 (L5.put_box5 (L5.put_box5 (S7.out) 3 rfl 0 (.string nm3)) 3 rfl 1 (.slice a3 N c3)) 3 rfl 2 (.int .i64 au3))
      clear S7
      obtain ⟨f0, f1, f2⟩ := Bag.cs3 S8.out 3 rfl
      refine bodyPost_ret (v := .tuple #[.agg #[.string nm3, .slice a3 N c3, .int .i64 au3], .bool false]) (by simp [results, Try.results19, go_sem, *]) rfl ?_
      clear f0 f1 f2
      exact ⟨⟨nm3, a3, c3, ys, au3⟩, by rw [HE.out]; unfold LS.v LS.cells; dsimp only; rw [hyl], by rw [HE.out]; unfold LS.con; dsimp only; rw [HCE.out], Bag.bag_from S8.out 4 rfl, S8.out.old⟩
     ·
      skip
      have HE := Lib.hid (show res = (⟨nm3, (conI xs).take (posI (conI xs) ⟨pk, pn, pt⟩) ++ ⟨⟨pk, pn, pt⟩, rl⟩ :: (conI xs).drop (posI (conI xs) ⟨pk, pn, pt⟩), nextAuto au3 ⟨pk, pn, pt⟩⟩, true) from by rw [HP.out, hfo]; dsimp only; rw [if_neg (by rw [conI_length, ← HN.out]; omega)])
      clear hfo
      have HAU := Lib.hid (show 0 ≤ au3 ∧ au3 ≤ 1000000 from by have h := HBS.out; unfold isS at h; simp only [Bool.and_eq_true] at h; exact L1.inB_true.1 h.2.2.2)
      clear f0 f1 f2 f3 f4 f5 f6 f7 f8 f9 f10 f11 f12
      have S8 := Lib.hid (show Sl.Sep w _ [L4.boxR w.heap.size 26 #[.string nm3, .slice a N c, .int .i64 au3], L4.boxR (w.heap.size + 1) 28 #[.int .i64 pk, .int .i64 pn, .string pt], L4.boxR (w.heap.size + 1 + 1) 31 #[.slice ra M rc], L4.boxR (w.heap.size + 1 + 1 + 1) 26 #[.string ⟨#[]⟩, .slice none 0 0, .int .i64 0], Bag.bag ([rowI a3 c3 ys] ++ rowsI ys), L4.boxR g1 26 #[.string nm3, .slice a3 N c3, .int .i64 au3]] from S7.out)
      clear S7
      have S9 := Lib.hid (show Sl.Sep w _ [_, _, _, _, Bag.bag ([rowI a3 c3 ys]), _, Bag.bag (rowsI ys)] from Bag.bag_split S8.out 4 rfl)
      clear S8
      have S10 := Lib.hid (show Sl.Sep w _ [_, _, _, _, Sv.ownV 40 4 a3 c3 N (cellsI ys), _, _] from (by have h := Bag.one_of_bag S9.out 4 (r := rowI a3 c3 ys) rfl; unfold RowS.res rowI at h; dsimp only at h; rw [hyl] at h; exact h))
      clear S9
      obtain ⟨f0, f1, f2⟩ := Bag.cs3 S10.out 0 rfl
      obtain ⟨f3, f4, f5⟩ := Bag.cs3 S10.out 1 rfl
      have f6 := Bag.cs1 S10.out 2 rfl
      obtain ⟨f7, f8, f9⟩ := Bag.cs3 S10.out 3 rfl
      obtain ⟨f10, f11, f12⟩ := Bag.cs3 S10.out 5 rfl
      go_wp2_with fail
      go_loopw [10] (fun i wr => ∃ k : Nat, k ≤ N ∧ i = .int .i64 k ∧ Hid ((∀ j (hj : j < (conI xs).length), j < k → cmpK (conI xs)[j].k ⟨pk, pn, pt⟩ < 0) ∧ Sl.Sep w wr [L4.boxR w.heap.size 26 #[.string nm3, .slice a N c, .int .i64 au3], L4.boxR (w.heap.size + 1) 28 #[.int .i64 pk, .int .i64 pn, .string pt], L4.boxR (w.heap.size + 1 + 1) 31 #[.slice ra M rc], L4.boxR (w.heap.size + 1 + 1 + 1) 26 #[.string ⟨#[]⟩, .slice none 0 0, .int .i64 0], Sv.ownV 40 4 a3 c3 N (cellsI ys), L4.boxR g1 26 #[.string nm3, .slice a3 N c3, .int .i64 au3], Bag.bag (rowsI ys)])) (fun i _ => N - (intOf i).toNat)
      case atStart => exact ⟨0, Nat.zero_le _, rfl, And.intro (fun j hj h => absurd h (by omega)) S10.out⟩
      case round =>
       clear f0 f1 f2 f3 f4 f5 f6 f7 f8 f9 f10 f11 f12
       obtain ⟨k, hk, rfl, hrel⟩ := hrel
       have HA := Lib.hid hrel.out.1
       have S11 := Lib.hid hrel.out.2
       clear hrel S10
       by_cases hlt : (k : Int) < (N : Int)
       ·
        skip
        have hkl : k < xs.length := by have := HN.out; omega
        obtain ⟨ad, x, rfl, hx⟩ := readsI_some (HR.out _ S11.out.old) k hkl
        obtain ⟨⟨kd, n, t⟩, ia, ic, l⟩ := x
        have HK := Lib.hid (fun w' (h : Below w.heap.size w w') => readsI_at (HR.out _ h) k _ hx)
        try dsimp only at HK
        have HFI := Lib.hid (fit_at HF.out hx)
        try dsimp only [LI.con] at HFI
        have hci : k < (conI xs).length := by rw [conI_length]; exact hkl
        have HC := Lib.hid (show (conI xs)[k]? = some (⟨⟨kd, n, t⟩, l⟩ : It) from con_of hx)
        clear hx
        obtain ⟨cv, hcv⟩ : ∃ b, cmpK ⟨kd, n, t⟩ ⟨pk, pn, pt⟩ = b := ⟨_, rfl⟩
        have HCMP := fun w => L4.specCompareKeys_any ⟨kd, n, t⟩ ⟨pk, pn, pt⟩ (by have : t.size ≤ 1099511627776 := HFI.out.text; show t.size ≤ _; omega) (by show pt.size ≤ _; omega) w
        rw [hcv] at HCMP
        replace HCMP := Lib.hid HCMP
        have HCV := Lib.hid hcv
        clear hcv
        obtain ⟨f0, f1, f2⟩ := Bag.cs3 S11.out 0 rfl
        obtain ⟨f3, f4, f5⟩ := Bag.cs3 S11.out 1 rfl
        have f6 := Bag.cs1 S11.out 2 rfl
        obtain ⟨f7, f8, f9⟩ := Bag.cs3 S11.out 3 rfl
        obtain ⟨f10, f11, f12⟩ := Bag.cs3 S11.out 5 rfl
        obtain ⟨f13, f14, f15, f16⟩ := HK.out _ S11.out.old
        by_cases hc : cv < 0
        ·
         skip
         go_upto_region 11 with fail
         clear f0 f1 f2 f3 f4 f5 f6 f7 f8 f9 f10 f11 f12 f13 f14 f15 f16
         refine wp_region_held_drew (S := (fun w' => (w'.cell? ⟨w.heap.size, 0, none⟩ = some (.string nm3) ∧ w'.cell? ⟨w.heap.size, 1, none⟩ = some (.slice (some ad) N c) ∧ w'.cell? ⟨w.heap.size, 2, none⟩ = some (.int .i64 au3)) ∧ (w'.cell? ⟨w.heap.size + 1, 0, none⟩ = some (.int .i64 pk) ∧ w'.cell? ⟨w.heap.size + 1, 1, none⟩ = some (.int .i64 pn) ∧ w'.cell? ⟨w.heap.size + 1, 2, none⟩ = some (.string pt)) ∧ (w'.cell? (ad.add (k * 4)) = some (.int .i64 kd) ∧ w'.cell? (⟨(ad.add (k * 4)).block, (ad.add (k * 4)).off + 1, none⟩) = some (.int .i64 n) ∧ w'.cell? (⟨(ad.add (k * 4)).block, (ad.add (k * 4)).off + 2, none⟩) = some (.string t) ∧ w'.cell? (⟨(ad.add (k * 4)).block, (ad.add (k * 4)).off + 3, none⟩) = some (.slice ia l.length ic)))) (by kernel_rfl) ⟨Bag.cs3 (Bag.drew1 S11.out) 0 rfl, Bag.cs3 (Bag.drew1 S11.out) 1 rfl, HK.out _ (Bag.drew1 S11.out).old⟩ (fun hS => ?_)
         have S12 := Lib.hid (Bag.drew1 S11.out)
         clear S11
         generalize World.drew _ = w7 at hS S12 ⊢
         refine tk 0 rfl ?_
         try simp only [zp0, zp1, zp2, zp3, zp4]
         refine tk 1 rfl ?_
         try simp only [zp0, zp1, zp2, zp3, zp4]
         refine tk 2 rfl ?_
         try simp only [zp0, zp1, zp2, zp3, zp4]
         refine tk 3 rfl ?_
         try simp only [zp0, zp1, zp2, zp3, zp4]
         refine tk 4 rfl ?_
         try simp only [zp0, zp1, zp2, zp3, zp4]
         refine tk 5 rfl ?_
         try simp only [zp0, zp1, zp2, zp3, zp4]
         refine tk 6 rfl ?_
         try simp only [zp0, zp1, zp2, zp3, zp4]
         refine tk 7 rfl ?_
         try simp only [zp0, zp1, zp2, zp3, zp4]
         refine tk 8 rfl ?_
         try simp only [zp0, zp1, zp2, zp3, zp4]
         refine tk 9 rfl ?_
         try simp only [zp0, zp1, zp2, zp3, zp4]
         refine tk 10 rfl ?_
         try simp only [zp0, zp1, zp2, zp3, zp4]
         refine tk 11 rfl ?_
         try simp only [zp0, zp1, zp2, zp3, zp4]
         refine tk 12 rfl ?_
         try simp only [zp0, zp1, zp2, zp3, zp4]
         refine Reg.one_op (i := 13) rfl (by kernel_rfl) (fun K hK => ?_)
         go_simp
         go_at_call 90
         refine (HCMP.out _).mono ?_
         rintro e w8 ⟨rfl, hb⟩
         have S13 := Lib.hid (S12.out.keep hb)
         clear S12
         clear hb
         go_wp2_with fail
         refine hK.out _ _ ⟨Bag.cs3 S13.out 0 rfl, Bag.cs3 S13.out 1 rfl, HK.out _ S13.out.old⟩ (fun hS => ?_)
         clear hK K
         try simp only [zp0, zp1, zp2, zp3, zp4]
         refine tk 14 rfl ?_
         try simp only [zp0, zp1, zp2, zp3, zp4]
         refine tk 15 rfl ?_
         try simp only [zp0, zp1, zp2, zp3, zp4]
         refine wpAnyH_done (by kernel_rfl) ?_ _
         obtain ⟨f0, f1, f2⟩ := Bag.cs3 S13.out 0 rfl
         obtain ⟨f3, f4, f5⟩ := Bag.cs3 S13.out 1 rfl
         have f6 := Bag.cs1 S13.out 2 rfl
         obtain ⟨f7, f8, f9⟩ := Bag.cs3 S13.out 3 rfl
         obtain ⟨f10, f11, f12⟩ := Bag.cs3 S13.out 5 rfl
         obtain ⟨f13, f14, f15, f16⟩ := HK.out _ S13.out.old
         go_wp2_with fail
         go_roundw
         case rel => exact ⟨k + 1, by omega, by go_num, And.intro (fun j hj h => by
          by_cases e : j < k
          ·
           exact HA.out j hj e
          ·
           obtain rfl : j = k := by omega
           rw [(List.getElem?_eq_some_iff.1 HC.out).2, HCV.out]; exact hc) S13.out⟩
         case measure => simp [intOf]; omega
        ·
         have hc2 : 0 ≤ cv := by omega
         go_upto_region 11 with fail
         clear f0 f1 f2 f3 f4 f5 f6 f7 f8 f9 f10 f11 f12 f13 f14 f15 f16
         refine wp_region_held_drew (S := (fun w' => (w'.cell? ⟨w.heap.size, 0, none⟩ = some (.string nm3) ∧ w'.cell? ⟨w.heap.size, 1, none⟩ = some (.slice (some ad) N c) ∧ w'.cell? ⟨w.heap.size, 2, none⟩ = some (.int .i64 au3)) ∧ (w'.cell? ⟨w.heap.size + 1, 0, none⟩ = some (.int .i64 pk) ∧ w'.cell? ⟨w.heap.size + 1, 1, none⟩ = some (.int .i64 pn) ∧ w'.cell? ⟨w.heap.size + 1, 2, none⟩ = some (.string pt)) ∧ (w'.cell? (ad.add (k * 4)) = some (.int .i64 kd) ∧ w'.cell? (⟨(ad.add (k * 4)).block, (ad.add (k * 4)).off + 1, none⟩) = some (.int .i64 n) ∧ w'.cell? (⟨(ad.add (k * 4)).block, (ad.add (k * 4)).off + 2, none⟩) = some (.string t) ∧ w'.cell? (⟨(ad.add (k * 4)).block, (ad.add (k * 4)).off + 3, none⟩) = some (.slice ia l.length ic)))) (by kernel_rfl) ⟨Bag.cs3 (Bag.drew1 S11.out) 0 rfl, Bag.cs3 (Bag.drew1 S11.out) 1 rfl, HK.out _ (Bag.drew1 S11.out).old⟩ (fun hS => ?_)
         have S12 := Lib.hid (Bag.drew1 S11.out)
         clear S11
         generalize World.drew _ = w7 at hS S12 ⊢
         refine tk 0 rfl ?_
         try simp only [zp0, zp1, zp2, zp3, zp4]
         refine tk 1 rfl ?_
         try simp only [zp0, zp1, zp2, zp3, zp4]
         refine tk 2 rfl ?_
         try simp only [zp0, zp1, zp2, zp3, zp4]
         refine tk 3 rfl ?_
         try simp only [zp0, zp1, zp2, zp3, zp4]
         refine tk 4 rfl ?_
         try simp only [zp0, zp1, zp2, zp3, zp4]
         refine tk 5 rfl ?_
         try simp only [zp0, zp1, zp2, zp3, zp4]
         refine tk 6 rfl ?_
         try simp only [zp0, zp1, zp2, zp3, zp4]
         refine tk 7 rfl ?_
         try simp only [zp0, zp1, zp2, zp3, zp4]
         refine tk 8 rfl ?_
         try simp only [zp0, zp1, zp2, zp3, zp4]
         refine tk 9 rfl ?_
         try simp only [zp0, zp1, zp2, zp3, zp4]
         refine tk 10 rfl ?_
         try simp only [zp0, zp1, zp2, zp3, zp4]
         refine tk 11 rfl ?_
         try simp only [zp0, zp1, zp2, zp3, zp4]
         refine tk 12 rfl ?_
         try simp only [zp0, zp1, zp2, zp3, zp4]
         refine Reg.one_op (i := 13) rfl (by kernel_rfl) (fun K hK => ?_)
         go_simp
         go_at_call 90
         refine (HCMP.out _).mono ?_
         rintro e w8 ⟨rfl, hb⟩
         have S13 := Lib.hid (S12.out.keep hb)
         clear S12
         clear hb
         go_wp2_with fail
         refine hK.out _ _ ⟨Bag.cs3 S13.out 0 rfl, Bag.cs3 S13.out 1 rfl, HK.out _ S13.out.old⟩ (fun hS => ?_)
         clear hK K
         try simp only [zp0, zp1, zp2, zp3, zp4]
         refine tk 14 rfl ?_
         try simp only [zp0, zp1, zp2, zp3, zp4]
         refine tk 15 rfl ?_
         try simp only [zp0, zp1, zp2, zp3, zp4]
         refine wpAnyH_done (by kernel_rfl) ?_ _
         obtain ⟨f0, f1, f2⟩ := Bag.cs3 S13.out 0 rfl
         obtain ⟨f3, f4, f5⟩ := Bag.cs3 S13.out 1 rfl
         have f6 := Bag.cs1 S13.out 2 rfl
         obtain ⟨f7, f8, f9⟩ := Bag.cs3 S13.out 3 rfl
         obtain ⟨f10, f11, f12⟩ := Bag.cs3 S13.out 5 rfl
         obtain ⟨f13, f14, f15, f16⟩ := HK.out _ S13.out.old
         have HPOS := Lib.hid (posI_at (xs := conI xs) (k := ⟨pk, pn, pt⟩) k (by omega) HA.out (fun h => by rw [(List.getElem?_eq_some_iff.1 HC.out).2, HCV.out]; omega))
         clear f0 f1 f2 f3 f4 f5 f6 f7 f8 f9 f10 f11 f12 f13 f14 f15 f16
         obtain ⟨g9, rfl⟩ : ∃ g, a3 = some ⟨g, 0, none⟩ := by
          rcases (Sv.own_at S13.out 4 rfl).form with ⟨_, h0, _⟩ | ⟨g, e, _⟩
          ·
           omega
          ·
           exact ⟨g, e⟩
         have hky : k ≤ ys.length := by omega
         have hck : (k : Int) ≤ (c3 : Int) := by have := (Sv.own_at S13.out 4 rfl).cap; omega
         have S14 := Lib.hid (show Sl.Sep w _ [L4.boxR w.heap.size 26 #[.string nm3, .slice (some ad) N c, .int .i64 au3], _, _, _, Sv.ownV 40 4 (some ⟨g9, 0, none⟩) c3 N (cellsI ys), L4.boxR g1 26 #[.string nm3, .slice (some ⟨g9, 0, none⟩) N c3, .int .i64 au3], _, Sv.ownV 40 4 (some ⟨w8.heap.size, 0, none⟩) 0 0 (cellsI [])] from Sv.push_own S13.out ((Below.refl _ _).alloc (Nat.le_refl _) _) (OwnV.madeAt w8 40 4 0 w8.heap.size #[] rfl (Nat.le_refl _) rfl (by decide)))
         clear S13
         obtain ⟨f0, f1, f2⟩ := Bag.cs3 S14.out 5 rfl
         obtain ⟨f3, f4, f5, f6⟩ := HK.out _ S14.out.old
         go_wp2_with (at_builtin; refine L5.wpList_append_v S14.out 7 rfl rfl _ _ 24 (by rfl) i0 (.agg #[.int .i64 0, .int .i64 0, .string ⟨#[]⟩, .slice none 0 0]) 56 Try.underlying24 HI.out.1 HI.out.2.1 HI.out.2.2.1 HI.out.2.2.2 rfl (by omega) _ (by rfl) rfl _ _ k _ _ (cellsI (ys.take k)) (by rfl) rfl (reads_head (Sv.own_at S14.out 4 rfl).reads k) (by rw [cellsI_length, List.length_take, Nat.min_eq_left hky]) (cellsI_one _) (by unfold maxLen; omega) (by omega) ?_; intro a2' c2' w9 hA)
         clear f0 f1 f2 f3 f4 f5 f6
         have S15 := Lib.hid (show Sl.Sep w w9 [L4.boxR w.heap.size 26 #[.string nm3, .slice (some ad) N c, .int .i64 au3], L4.boxR (w.heap.size + 1) 28 #[.int .i64 pk, .int .i64 pn, .string pt], L4.boxR (w.heap.size + 1 + 1) 31 #[.slice ra M rc], L4.boxR (w.heap.size + 1 + 1 + 1) 26 #[.string ⟨#[]⟩, .slice none 0 0, .int .i64 0], Sv.ownV 40 4 (some ⟨g9, 0, none⟩) c3 N (cellsI ys), L4.boxR g1 26 #[.string nm3, .slice (some ⟨g9, 0, none⟩) N c3, .int .i64 au3], Bag.bag (rowsI ys), Sv.ownV 40 4 a2' c2' k (cellsI (ys.take k))] from (by have h := hA; rw [Nat.zero_add] at h; exact h))
         clear S14
         clear hA
         obtain ⟨f0, f1, f2⟩ := Bag.cs3 S15.out 0 rfl
         obtain ⟨f3, f4, f5⟩ := Bag.cs3 S15.out 1 rfl
         have f6 := Bag.cs1 S15.out 2 rfl
         obtain ⟨f7, f8, f9⟩ := Bag.cs3 S15.out 3 rfl
         obtain ⟨f10, f11, f12⟩ := Bag.cs3 S15.out 5 rfl
         obtain ⟨f13, f14, f15, f16⟩ := HK.out _ S15.out.old
         go_upto_region 14 with fail
         clear f0 f1 f2 f3 f4 f5 f6 f7 f8 f9 f10 f11 f12 f13 f14 f15 f16
         refine wp_region_held_drew (S := (fun w' => (w'.cell? ⟨w.heap.size + 1, 0, none⟩ = some (.int .i64 pk) ∧ w'.cell? ⟨w.heap.size + 1, 1, none⟩ = some (.int .i64 pn) ∧ w'.cell? ⟨w.heap.size + 1, 2, none⟩ = some (.string pt)) ∧ (w'.cell? ⟨w.heap.size + 1 + 1, 0, none⟩ = some (.slice ra M rc)) ∧ (w'.cell? (ad.add (k * 4)) = some (.int .i64 kd) ∧ w'.cell? (⟨(ad.add (k * 4)).block, (ad.add (k * 4)).off + 1, none⟩) = some (.int .i64 n) ∧ w'.cell? (⟨(ad.add (k * 4)).block, (ad.add (k * 4)).off + 2, none⟩) = some (.string t) ∧ w'.cell? (⟨(ad.add (k * 4)).block, (ad.add (k * 4)).off + 3, none⟩) = some (.slice ia l.length ic)))) (by kernel_rfl) ⟨Bag.cs3 (Bag.drew1 S15.out) 1 rfl, Bag.cs1 (Bag.drew1 S15.out) 2 rfl, HK.out _ (Bag.drew1 S15.out).old⟩ (fun hS => ?_)
         have S16 := Lib.hid (Bag.drew1 S15.out)
         clear S15
         generalize World.drew _ = w10 at hS S16 ⊢
         refine tk 0 rfl ?_
         try simp only [zp0, zp1, zp2, zp3, zp4]
         refine tk 1 rfl ?_
         try simp only [zp0, zp1, zp2, zp3, zp4]
         refine tk 2 rfl ?_
         try simp only [zp0, zp1, zp2, zp3, zp4]
         refine Reg.one_op (i := 3) rfl (by kernel_rfl) (fun K hK => ?_)
         go_simp
         go_at_call 89
         refine (HRC.out _ S16.out.old).mono ?_
         rintro e w11 ⟨a1, c1, rfl, ho, hb⟩
         have S17 := Lib.hid (show Sl.Sep w _ [_, _, _, _, _, _, _, _, Sv.ownV 128 2 a1 c1 M (cellsF rl)] from Sv.push_own S16.out hb ho)
         clear S16
         clear hb ho
         go_wp2_with fail
         refine hK.out _ _ ⟨Bag.cs3 S17.out 1 rfl, Bag.cs1 S17.out 2 rfl, HK.out _ S17.out.old⟩ (fun hS => ?_)
         clear hK K
         try simp only [zp0, zp1, zp2, zp3, zp4]
         refine tk 4 rfl ?_
         try simp only [zp0, zp1, zp2, zp3, zp4]
         refine Reg.one_op (i := 5) rfl (by kernel_rfl) (fun K hK => ?_)
         go_simp
         have S18 := Lib.hid (show Sl.Sep w _ [_, _, _, _, _, _, _, _, _, Sv.ownV 40 4 (some ⟨w11.heap.size, 0, none⟩) 1 1 ([.int .i64 pk, .int .i64 pn, .string pt, .slice a1 M c1])] from Sv.push_own S17.out ((Below.refl _ _).alloc (Nat.le_refl _) _) (OwnV.madeAt w11 40 4 1 w11.heap.size #[.int .i64 pk, .int .i64 pn, .string pt, .slice a1 M c1] rfl (Nat.le_refl _) rfl (by decide)))
         clear S17
         obtain ⟨g3, hg⟩ : ∃ g', g' = w11.heap.size := ⟨_, rfl⟩
         rw [← hg] at S18 ⊢
         clear hg
         generalize w11.alloc (.cells #[.int .i64 pk, .int .i64 pn, .string pt, .slice a1 M c1] 40) = w12 at S18 ⊢
         refine hK.out _ _ ⟨Bag.cs3 S18.out 1 rfl, Bag.cs1 S18.out 2 rfl, HK.out _ S18.out.old⟩ (fun hS => ?_)
         clear hK K
         try simp only [zp0, zp1, zp2, zp3, zp4]
         refine Reg.one_op (i := 6) rfl (by kernel_rfl) (fun K hK => ?_)
         refine Sv.step_append_s S18.out 7 rfl rfl _ _ 24 (by rfl) i0 (.agg #[.int .i64 0, .int .i64 0, .string ⟨#[]⟩, .slice none 0 0]) 56 Try.underlying24 HI.out.1 HI.out.2.1 HI.out.2.2.1 HI.out.2.2.2 rfl (by omega) _ (by rfl) rfl _ _ 1 _ _ ([.int .i64 pk, .int .i64 pn, .string pt, .slice a1 M c1]) (by rfl) rfl ((Sv.own_at S18.out 9 rfl).reads) rfl (by intro u hu; simp at hu; rcases hu with rfl | rfl | rfl | rfl <;> rfl) (by unfold maxLen; omega) (by omega) ?_
         intro a4' c4' w13 hA
         have S19 := Lib.hid (show Sl.Sep w _ [_, _, _, _, _, _, _, Sv.ownV 40 4 a4' c4' (k + 1) (cellsI (ys.take k) ++ ([.int .i64 pk, .int .i64 pn, .string pt, .slice a1 M c1])), _, Sv.ownV 40 4 (some ⟨g3, 0, none⟩) 1 1 ([.int .i64 pk, .int .i64 pn, .string pt, .slice a1 M c1])] from hA)
         clear S18
         clear hA
         refine hK.out _ _ ⟨Bag.cs3 S19.out 1 rfl, Bag.cs1 S19.out 2 rfl, HK.out _ S19.out.old⟩ (fun hS => ?_)
         clear hK K
         try simp only [zp0, zp1, zp2, zp3, zp4]
         refine tk 7 rfl ?_
         try simp only [zp0, zp1, zp2, zp3, zp4]
         refine wpAnyH_done (by kernel_rfl) ?_ _
         obtain ⟨f0, f1, f2⟩ := Bag.cs3 S19.out 0 rfl
         obtain ⟨f3, f4, f5⟩ := Bag.cs3 S19.out 1 rfl
         have f6 := Bag.cs1 S19.out 2 rfl
         obtain ⟨f7, f8, f9⟩ := Bag.cs3 S19.out 3 rfl
         obtain ⟨f10, f11, f12⟩ := Bag.cs3 S19.out 5 rfl
         obtain ⟨f13, f14, f15, f16⟩ := HK.out _ S19.out.old
         clear f0 f1 f2 f3 f4 f5 f6 f7 f8 f9 f10 f11 f12 f13 f14 f15 f16
         obtain ⟨f0, f1, f2⟩ := Bag.cs3 S19.out 5 rfl
         obtain ⟨f3, f4, f5, f6⟩ := HK.out _ S19.out.old
         have hcl := (Sv.own_at S19.out 4 rfl).cap
         have hnl : ys.length ≤ c3 := by omega
         have HNL := Lib.hid hnl
         clear hnl hcl
         have hkN : (k : Int) ≤ (N : Int) := by omega
         have hNc : (N : Int) ≤ (c3 : Int) := by have := HNL.out; omega
         go_upto_region 16 with (at_builtin; refine L5.wpList_append_v S19.out 7 rfl rfl _ _ 24 (by rfl) i0 (.agg #[.int .i64 0, .int .i64 0, .string ⟨#[]⟩, .slice none 0 0]) 56 Try.underlying24 HI.out.1 HI.out.2.1 HI.out.2.2.1 HI.out.2.2.2 rfl (by omega) _ (by rfl) rfl _ _ (N - k) _ _ (cellsI (ys.drop k)) (by rfl) rfl (reads_rest2 (Sv.own_at S19.out 4 rfl).reads k) (by rw [cellsI_length, List.length_drop, hyl]) (cellsI_one _) (by unfold maxLen; omega) (by omega) ?_; intro a5' c5' w14 hA; have SA := Lib.hid (show Sl.Sep w w14 [L4.boxR w.heap.size 26 #[.string nm3, .slice (some ad) N c, .int .i64 au3], L4.boxR (w.heap.size + 1) 28 #[.int .i64 pk, .int .i64 pn, .string pt], L4.boxR (w.heap.size + 1 + 1) 31 #[.slice ra M rc], L4.boxR (w.heap.size + 1 + 1 + 1) 26 #[.string ⟨#[]⟩, .slice none 0 0, .int .i64 0], Sv.ownV 40 4 (some ⟨g9, 0, none⟩) c3 N (cellsI ys), L4.boxR g1 26 #[.string nm3, .slice (some ⟨g9, 0, none⟩) N c3, .int .i64 au3], Bag.bag (rowsI ys), Sv.ownV 40 4 (a5') (c5') (k + 1 + (N - k)) ((cellsI (ys.take k) ++ ([.int .i64 pk, .int .i64 pn, .string pt, .slice a1 M c1])) ++ cellsI (ys.drop k)), Sv.ownV 128 2 a1 c1 M (cellsF rl), Sv.ownV 40 4 (some ⟨g3, 0, none⟩) 1 1 ([.int .i64 pk, .int .i64 pn, .string pt, .slice a1 M c1])] from hA); clear hA; have f0 : World.cell? _ ⟨g1, 1, none⟩ = some (.slice (some ⟨g9, 0, none⟩) N c3) := Bag.cell_at SA.out 5 rfl 1 rfl; have z1 := Bag.free_at SA.out 5 rfl 1)
         have S20 := SA
         clear SA S19 f0 z1
         have S21 := Lib.hid (show Sl.Sep w _ [L4.boxR w.heap.size 26 #[.string nm3, .slice (some ad) N c, .int .i64 au3], L4.boxR (w.heap.size + 1) 28 #[.int .i64 pk, .int .i64 pn, .string pt], L4.boxR (w.heap.size + 1 + 1) 31 #[.slice ra M rc], L4.boxR (w.heap.size + 1 + 1 + 1) 26 #[.string ⟨#[]⟩, .slice none 0 0, .int .i64 0], Sv.ownV 40 4 (some ⟨g9, 0, none⟩) c3 N (cellsI ys), L4.boxR g1 26 #[.string nm3, .slice a5' (k + 1 + (N - k)) c5', .int .i64 au3], Bag.bag (rowsI ys), Sv.ownV 40 4 a5' c5' (k + 1 + (N - k)) ((cellsI (ys.take k) ++ ([.int .i64 pk, .int .i64 pn, .string pt, .slice a1 M c1])) ++ cellsI (ys.drop k)), Sv.ownV 128 2 a1 c1 M (cellsF rl), Sv.ownV 40 4 (some ⟨g3, 0, none⟩) 1 1 ([.int .i64 pk, .int .i64 pn, .string pt, .slice a1 M c1])] from L5.put_box5 (S20.out) 5 rfl 1 (.slice a5' (k + 1 + (N - k)) c5'))
         clear S20
         have S22 := Lib.hid (show Sl.Sep w _ [_, _, _, _, _, _, _, _] from Bag.take S21.out [0, 1, 2, 3, 5, 6, 7, 8] (by rfl) (by decide))
         clear S21
         obtain ⟨ba, hba⟩ : ∃ b, L1.inB pn (au3 + 1) 1000000 = b := ⟨_, rfl⟩
         have HIA := fun w => L1.l1In_any pn (au3 + 1) 1000000 w
         rw [hba] at HIA
         replace HIA := Lib.hid HIA
         have hau0 : 0 ≤ au3 := HAU.out.1
         have hau1 : au3 ≤ 1000000 := HAU.out.2
         have HBA := Lib.hid hba
         clear hba
         obtain ⟨f0, f1, f2⟩ := Bag.cs3 S22.out 0 rfl
         obtain ⟨f3, f4, f5⟩ := Bag.cs3 S22.out 1 rfl
         have f6 := Bag.cs1 S22.out 2 rfl
         obtain ⟨f7, f8, f9⟩ := Bag.cs3 S22.out 3 rfl
         obtain ⟨f10, f11, f12⟩ := Bag.cs3 S22.out 4 rfl
         obtain ⟨f13, f14, f15, f16⟩ := HK.out _ S22.out.old
         by_cases hk1 : pk = 1
         ·
          subst hk1
          cases ba with
          | false =>
           go_wp2_with fail
           go_at_call 91
           refine (HIA.out _).mono ?_
           rintro e w15 ⟨rfl, rfl⟩
           clear f0 f1 f2 f3 f4 f5 f6 f7 f8 f9 f10 f11 f12 f13 f14 f15 f16
           obtain ⟨f0, f1, f2⟩ := Bag.cs3 S22.out 0 rfl
           obtain ⟨f3, f4, f5⟩ := Bag.cs3 S22.out 1 rfl
           have f6 := Bag.cs1 S22.out 2 rfl
           obtain ⟨f7, f8, f9⟩ := Bag.cs3 S22.out 3 rfl
           obtain ⟨f10, f11, f12⟩ := Bag.cs3 S22.out 4 rfl
           obtain ⟨f13, f14, f15, f16⟩ := HK.out _ S22.out.old
           obtain ⟨z0, z1, z2⟩ := Bag.fs3 S22.out 3 rfl
           go_wp2_with fail
           clear f0 f1 f2 f3 f4 f5 f6 f7 f8 f9 f10 f11 f12 f13 f14 f15 f16 z0 z1 z2
           have S23 := Lib.hid (show Sl.Sep w _ [_, L4.boxR (w.heap.size + 1) 28 #[.int .i64 1, .int .i64 pn, .string pt], _, L4.boxR (w.heap.size + 1 + 1 + 1) 26 #[.string nm3, .slice a5' (k + 1 + (N - k)) c5', .int .i64 au3], _, _, Sv.ownV 40 4 a5' c5' (k + 1 + (N - k)) ((cellsI (ys.take k) ++ ([.int .i64 1, .int .i64 pn, .string pt, .slice a1 M c1])) ++ cellsI (ys.drop k)), _] from L5.put_box5 (L5.put_box5 (L5.put_box5 (S22.out) 3 rfl 0 (.string nm3)) 3 rfl 1 (.slice a5' (k + 1 + (N - k)) c5')) 3 rfl 2 (.int .i64 au3))
           clear S22
           obtain ⟨f0, f1, f2⟩ := Bag.cs3 S23.out 3 rfl
           obtain ⟨f3, f4, f5, f6⟩ := HK.out _ S23.out.old
           refine bodyPost_ret (v := .tuple #[.agg #[.string nm3, .slice a5' (k + 1 + (N - k)) c5', .int .i64 au3], .bool true]) (by simp [results, Try.results19, go_sem, *]) rfl ?_
           clear f0 f1 f2 f3 f4 f5 f6
           have HX9 := Lib.hid (show nextAuto au3 ⟨1, pn, pt⟩ = au3 from by unfold nextAuto; dsimp only; rw [HBA.out, Bool.and_false]; rfl)
           have hM := HM.out
           subst hM
           have S90 := Lib.hid (Bag.bag_of_one S23.out 7 (r := (LI.mk ⟨1, pn, pt⟩ a1 c1 rl).row) rfl)
           have S91 := Lib.hid (Bag.bag_join S90.out 5 7 (by decide) rfl rfl)
           have S92 := Lib.hid (Bag.bag_perm S91.out 5 rfl (rowsI_ins ys k ⟨⟨1, pn, pt⟩, a1, c1, rl⟩))
           have hlz : (ys.take k ++ ⟨⟨1, pn, pt⟩, a1, c1, rl⟩ :: ys.drop k).length = k + 1 + (N - k) := by rw [List.length_append, List.length_cons, List.length_take, List.length_drop]; omega
           have hcz : cellsI (ys.take k ++ ⟨⟨1, pn, pt⟩, a1, c1, rl⟩ :: ys.drop k) = (cellsI (ys.take k) ++ ([.int .i64 1, .int .i64 pn, .string pt, .slice a1 rl.length c1])) ++ cellsI (ys.drop k) := by rw [cellsI_append, cellsI_cons]; simp
           have S93 := Lib.hid (Bag.bag_of_one S92.out 6 (r := rowI a5' c5' (ys.take k ++ ⟨⟨1, pn, pt⟩, a1, c1, rl⟩ :: ys.drop k)) (by unfold RowS.res rowI; dsimp only; rw [hlz, hcz]; rfl))
           have S94 := Lib.hid (Bag.bag_join S93.out 6 5 (by decide) rfl rfl)
           refine ⟨⟨nm3, a5', c5', ys.take k ++ ⟨⟨1, pn, pt⟩, a1, c1, rl⟩ :: ys.drop k, au3⟩, ?_, ?_, ?_, S94.out.old⟩
           ·
            rw [HE.out]; unfold LS.v LS.cells; dsimp only; rw [hlz]
           ·
            rw [HE.out, HX9.out, HPOS.out]; unfold LS.con; dsimp only; rw [conI_ins, HCE.out]; rfl
           ·
            have h := Bag.bag_from S94.out 6 rfl
            unfold LS.rows; exact h
          | true =>
           go_wp2_with fail
           go_at_call 91
           refine (HIA.out _).mono ?_
           rintro e w15 ⟨rfl, rfl⟩
           clear f0 f1 f2 f3 f4 f5 f6 f7 f8 f9 f10 f11 f12 f13 f14 f15 f16
           obtain ⟨f0, f1, f2⟩ := Bag.cs3 S22.out 0 rfl
           obtain ⟨f3, f4, f5⟩ := Bag.cs3 S22.out 1 rfl
           have f6 := Bag.cs1 S22.out 2 rfl
           obtain ⟨f7, f8, f9⟩ := Bag.cs3 S22.out 3 rfl
           obtain ⟨f10, f11, f12⟩ := Bag.cs3 S22.out 4 rfl
           obtain ⟨f13, f14, f15, f16⟩ := HK.out _ S22.out.old
           obtain ⟨z0, z1, z2⟩ := Bag.fs3 S22.out 4 rfl
           go_upto_region 18 with fail
           clear f0 f1 f2 f3 f4 f5 f6 f7 f8 f9 f10 f11 f12 f13 f14 f15 f16 z0 z1 z2
           have S23 := Lib.hid (show Sl.Sep w _ [_, L4.boxR (w.heap.size + 1) 28 #[.int .i64 1, .int .i64 pn, .string pt], _, _, L4.boxR g1 26 #[.string nm3, .slice a5' (k + 1 + (N - k)) c5', .int .i64 pn], _, Sv.ownV 40 4 a5' c5' (k + 1 + (N - k)) ((cellsI (ys.take k) ++ ([.int .i64 1, .int .i64 pn, .string pt, .slice a1 M c1])) ++ cellsI (ys.drop k)), _] from L5.put_box5 (S22.out) 4 rfl 2 (.int .i64 pn))
           clear S22
           obtain ⟨f0, f1, f2⟩ := Bag.cs3 S23.out 0 rfl
           obtain ⟨f3, f4, f5⟩ := Bag.cs3 S23.out 1 rfl
           have f6 := Bag.cs1 S23.out 2 rfl
           obtain ⟨f7, f8, f9⟩ := Bag.cs3 S23.out 3 rfl
           obtain ⟨f10, f11, f12⟩ := Bag.cs3 S23.out 4 rfl
           obtain ⟨f13, f14, f15, f16⟩ := HK.out _ S23.out.old
           obtain ⟨z0, z1, z2⟩ := Bag.fs3 S23.out 3 rfl
           go_wp2_with fail
           clear f0 f1 f2 f3 f4 f5 f6 f7 f8 f9 f10 f11 f12 f13 f14 f15 f16 z0 z1 z2
           have S24 := Lib.hid (show Sl.Sep w _ [_, _, _, L4.boxR (w.heap.size + 1 + 1 + 1) 26 #[.string nm3, .slice a5' (k + 1 + (N - k)) c5', .int .i64 pn], _, _, _, _] from L5.put_box5 (L5.put_box5 (L5.put_box5 (S23.out) 3 rfl 0 (.string nm3)) 3 rfl 1 (.slice a5' (k + 1 + (N - k)) c5')) 3 rfl 2 (.int .i64 pn))
           clear S23
           obtain ⟨f0, f1, f2⟩ := Bag.cs3 S24.out 3 rfl
           obtain ⟨f3, f4, f5, f6⟩ := HK.out _ S24.out.old
           refine bodyPost_ret (v := .tuple #[.agg #[.string nm3, .slice a5' (k + 1 + (N - k)) c5', .int .i64 pn], .bool true]) (by simp [results, Try.results19, go_sem, *]) rfl ?_
           clear f0 f1 f2 f3 f4 f5 f6
           have HX9 := Lib.hid (show nextAuto au3 ⟨1, pn, pt⟩ = pn from by unfold nextAuto; dsimp only; rw [HBA.out]; rfl)
           have hM := HM.out
           subst hM
           have S90 := Lib.hid (Bag.bag_of_one S24.out 7 (r := (LI.mk ⟨1, pn, pt⟩ a1 c1 rl).row) rfl)
           have S91 := Lib.hid (Bag.bag_join S90.out 5 7 (by decide) rfl rfl)
           have S92 := Lib.hid (Bag.bag_perm S91.out 5 rfl (rowsI_ins ys k ⟨⟨1, pn, pt⟩, a1, c1, rl⟩))
           have hlz : (ys.take k ++ ⟨⟨1, pn, pt⟩, a1, c1, rl⟩ :: ys.drop k).length = k + 1 + (N - k) := by rw [List.length_append, List.length_cons, List.length_take, List.length_drop]; omega
           have hcz : cellsI (ys.take k ++ ⟨⟨1, pn, pt⟩, a1, c1, rl⟩ :: ys.drop k) = (cellsI (ys.take k) ++ ([.int .i64 1, .int .i64 pn, .string pt, .slice a1 rl.length c1])) ++ cellsI (ys.drop k) := by rw [cellsI_append, cellsI_cons]; simp
           have S93 := Lib.hid (Bag.bag_of_one S92.out 6 (r := rowI a5' c5' (ys.take k ++ ⟨⟨1, pn, pt⟩, a1, c1, rl⟩ :: ys.drop k)) (by unfold RowS.res rowI; dsimp only; rw [hlz, hcz]; rfl))
           have S94 := Lib.hid (Bag.bag_join S93.out 6 5 (by decide) rfl rfl)
           refine ⟨⟨nm3, a5', c5', ys.take k ++ ⟨⟨1, pn, pt⟩, a1, c1, rl⟩ :: ys.drop k, pn⟩, ?_, ?_, ?_, S94.out.old⟩
           ·
            rw [HE.out]; unfold LS.v LS.cells; dsimp only; rw [hlz]
           ·
            rw [HE.out, HX9.out, HPOS.out]; unfold LS.con; dsimp only; rw [conI_ins, HCE.out]; rfl
           ·
            have h := Bag.bag_from S94.out 6 rfl
            unfold LS.rows; exact h
         ·
          have hk2 : (pk == 1) = false := by simpa using hk1
          clear f0 f1 f2 f3 f4 f5 f6 f7 f8 f9 f10 f11 f12 f13 f14 f15 f16
          obtain ⟨f0, f1, f2⟩ := Bag.cs3 S22.out 0 rfl
          obtain ⟨f3, f4, f5⟩ := Bag.cs3 S22.out 1 rfl
          have f6 := Bag.cs1 S22.out 2 rfl
          obtain ⟨f7, f8, f9⟩ := Bag.cs3 S22.out 3 rfl
          obtain ⟨f10, f11, f12⟩ := Bag.cs3 S22.out 4 rfl
          obtain ⟨f13, f14, f15, f16⟩ := HK.out _ S22.out.old
          obtain ⟨z0, z1, z2⟩ := Bag.fs3 S22.out 3 rfl
          go_wp2_with fail
          clear f0 f1 f2 f3 f4 f5 f6 f7 f8 f9 f10 f11 f12 f13 f14 f15 f16 z0 z1 z2
          have S23 := Lib.hid (show Sl.Sep w _ [_, _, _, L4.boxR (w.heap.size + 1 + 1 + 1) 26 #[.string nm3, .slice a5' (k + 1 + (N - k)) c5', .int .i64 au3], _, _, _, _] from L5.put_box5 (L5.put_box5 (L5.put_box5 (S22.out) 3 rfl 0 (.string nm3)) 3 rfl 1 (.slice a5' (k + 1 + (N - k)) c5')) 3 rfl 2 (.int .i64 au3))
          clear S22
          obtain ⟨f0, f1, f2⟩ := Bag.cs3 S23.out 3 rfl
          obtain ⟨f3, f4, f5, f6⟩ := HK.out _ S23.out.old
          refine bodyPost_ret (v := .tuple #[.agg #[.string nm3, .slice a5' (k + 1 + (N - k)) c5', .int .i64 au3], .bool true]) (by simp [results, Try.results19, go_sem, *]) rfl ?_
          clear f0 f1 f2 f3 f4 f5 f6
          have HX9 := Lib.hid (show nextAuto au3 ⟨pk, pn, pt⟩ = au3 from by unfold nextAuto; dsimp only; rw [hk2]; rfl)
          have hM := HM.out
          subst hM
          have S90 := Lib.hid (Bag.bag_of_one S23.out 7 (r := (LI.mk ⟨pk, pn, pt⟩ a1 c1 rl).row) rfl)
          have S91 := Lib.hid (Bag.bag_join S90.out 5 7 (by decide) rfl rfl)
          have S92 := Lib.hid (Bag.bag_perm S91.out 5 rfl (rowsI_ins ys k ⟨⟨pk, pn, pt⟩, a1, c1, rl⟩))
          have hlz : (ys.take k ++ ⟨⟨pk, pn, pt⟩, a1, c1, rl⟩ :: ys.drop k).length = k + 1 + (N - k) := by rw [List.length_append, List.length_cons, List.length_take, List.length_drop]; omega
          have hcz : cellsI (ys.take k ++ ⟨⟨pk, pn, pt⟩, a1, c1, rl⟩ :: ys.drop k) = (cellsI (ys.take k) ++ ([.int .i64 pk, .int .i64 pn, .string pt, .slice a1 rl.length c1])) ++ cellsI (ys.drop k) := by rw [cellsI_append, cellsI_cons]; simp
          have S93 := Lib.hid (Bag.bag_of_one S92.out 6 (r := rowI a5' c5' (ys.take k ++ ⟨⟨pk, pn, pt⟩, a1, c1, rl⟩ :: ys.drop k)) (by unfold RowS.res rowI; dsimp only; rw [hlz, hcz]; rfl))
          have S94 := Lib.hid (Bag.bag_join S93.out 6 5 (by decide) rfl rfl)
          refine ⟨⟨nm3, a5', c5', ys.take k ++ ⟨⟨pk, pn, pt⟩, a1, c1, rl⟩ :: ys.drop k, au3⟩, ?_, ?_, ?_, S94.out.old⟩
          ·
           rw [HE.out]; unfold LS.v LS.cells; dsimp only; rw [hlz]
          ·
           rw [HE.out, HX9.out, HPOS.out]; unfold LS.con; dsimp only; rw [conI_ins, HCE.out]; rfl
          ·
           have h := Bag.bag_from S94.out 6 rfl
           unfold LS.rows; exact h
       ·
        skip
        have hge : ¬ (k : Int) < (N : Int) := hlt
        obtain rfl : k = N := by omega
        have HPOS := Lib.hid (posI_at (xs := conI xs) (k := ⟨pk, pn, pt⟩) k (by rw [conI_length]; have := HN.out; omega) HA.out (fun h => absurd h (by rw [conI_length]; have := HN.out; omega)))
        obtain ⟨f0, f1, f2⟩ := Bag.cs3 S11.out 0 rfl
        obtain ⟨f3, f4, f5⟩ := Bag.cs3 S11.out 1 rfl
        have f6 := Bag.cs1 S11.out 2 rfl
        obtain ⟨f7, f8, f9⟩ := Bag.cs3 S11.out 3 rfl
        obtain ⟨f10, f11, f12⟩ := Bag.cs3 S11.out 5 rfl
        go_upto_region 11 with fail
        clear f0 f1 f2 f3 f4 f5 f6 f7 f8 f9 f10 f11 f12
        refine wp_region_held_drew (S := (fun w' => (w'.cell? ⟨w.heap.size, 0, none⟩ = some (.string nm3) ∧ w'.cell? ⟨w.heap.size, 1, none⟩ = some (.slice a k c) ∧ w'.cell? ⟨w.heap.size, 2, none⟩ = some (.int .i64 au3)) ∧ (w'.cell? ⟨w.heap.size + 1, 0, none⟩ = some (.int .i64 pk) ∧ w'.cell? ⟨w.heap.size + 1, 1, none⟩ = some (.int .i64 pn) ∧ w'.cell? ⟨w.heap.size + 1, 2, none⟩ = some (.string pt)))) (by kernel_rfl) ⟨Bag.cs3 (Bag.drew1 S11.out) 0 rfl, Bag.cs3 (Bag.drew1 S11.out) 1 rfl⟩ (fun hS => ?_)
        have S12 := Lib.hid (Bag.drew1 S11.out)
        clear S11
        generalize World.drew _ = w7 at hS S12 ⊢
        refine tk 0 rfl ?_
        try simp only [zp0, zp1, zp2, zp3, zp4]
        refine tk 1 rfl ?_
        try simp only [zp0, zp1, zp2, zp3, zp4]
        refine tk 2 rfl ?_
        try simp only [zp0, zp1, zp2, zp3, zp4]
        refine tk 3 rfl ?_
        try simp only [zp0, zp1, zp2, zp3, zp4]
        refine tk 4 rfl ?_
        try simp only [zp0, zp1, zp2, zp3, zp4]
        refine tk 5 rfl ?_
        try simp only [zp0, zp1, zp2, zp3, zp4]
        refine sk 6 rfl ?_
        try simp only [zp0, zp1, zp2, zp3, zp4]
        refine sk 7 rfl ?_
        try simp only [zp0, zp1, zp2, zp3, zp4]
        refine sk 8 rfl ?_
        try simp only [zp0, zp1, zp2, zp3, zp4]
        refine sk 9 rfl ?_
        try simp only [zp0, zp1, zp2, zp3, zp4]
        refine sk 10 rfl ?_
        try simp only [zp0, zp1, zp2, zp3, zp4]
        refine sk 11 rfl ?_
        try simp only [zp0, zp1, zp2, zp3, zp4]
        refine sk 12 rfl ?_
        try simp only [zp0, zp1, zp2, zp3, zp4]
        refine Reg.skip_one (i := 13) rfl (by kernel_rfl) (by rfl) (by assumption) ?_
        try simp only [zp0, zp1, zp2, zp3, zp4]
        refine sk 14 rfl ?_
        try simp only [zp0, zp1, zp2, zp3, zp4]
        refine tk 15 rfl ?_
        try simp only [zp0, zp1, zp2, zp3, zp4]
        refine wpAnyH_done (by kernel_rfl) ?_ _
        obtain ⟨f0, f1, f2⟩ := Bag.cs3 S12.out 0 rfl
        obtain ⟨f3, f4, f5⟩ := Bag.cs3 S12.out 1 rfl
        have f6 := Bag.cs1 S12.out 2 rfl
        obtain ⟨f7, f8, f9⟩ := Bag.cs3 S12.out 3 rfl
        obtain ⟨f10, f11, f12⟩ := Bag.cs3 S12.out 5 rfl
        clear f0 f1 f2 f3 f4 f5 f6 f7 f8 f9 f10 f11 f12
        have hky : k ≤ ys.length := by omega
        have hck : (k : Int) ≤ (c3 : Int) := by have := (Sv.own_at S12.out 4 rfl).cap; omega
        have S13 := Lib.hid (show Sl.Sep w _ [_, _, _, _, _, _, _, Sv.ownV 40 4 (some ⟨w7.heap.size, 0, none⟩) 0 0 (cellsI [])] from Sv.push_own S12.out ((Below.refl _ _).alloc (Nat.le_refl _) _) (OwnV.madeAt w7 40 4 0 w7.heap.size #[] rfl (Nat.le_refl _) rfl (by decide)))
        clear S12
        obtain ⟨f0, f1, f2⟩ := Bag.cs3 S13.out 5 rfl
        go_wp2_with (at_builtin; refine L5.wpList_append_v S13.out 7 rfl rfl _ _ 24 (by rfl) i0 (.agg #[.int .i64 0, .int .i64 0, .string ⟨#[]⟩, .slice none 0 0]) 56 Try.underlying24 HI.out.1 HI.out.2.1 HI.out.2.2.1 HI.out.2.2.2 rfl (by omega) _ (by rfl) rfl _ _ k _ _ (cellsI (ys.take k)) (by rfl) rfl (reads_head (Sv.own_at S13.out 4 rfl).reads k) (by rw [cellsI_length, List.length_take, Nat.min_eq_left hky]) (cellsI_one _) (by unfold maxLen; omega) (by omega) ?_; intro a2' c2' w8 hA)
        clear f0 f1 f2
        have S14 := Lib.hid (show Sl.Sep w w8 [L4.boxR w.heap.size 26 #[.string nm3, .slice a k c, .int .i64 au3], L4.boxR (w.heap.size + 1) 28 #[.int .i64 pk, .int .i64 pn, .string pt], L4.boxR (w.heap.size + 1 + 1) 31 #[.slice ra M rc], L4.boxR (w.heap.size + 1 + 1 + 1) 26 #[.string ⟨#[]⟩, .slice none 0 0, .int .i64 0], Sv.ownV 40 4 a3 c3 k (cellsI ys), L4.boxR g1 26 #[.string nm3, .slice a3 k c3, .int .i64 au3], Bag.bag (rowsI ys), Sv.ownV 40 4 a2' c2' k (cellsI (ys.take k))] from (by have h := hA; rw [Nat.zero_add] at h; exact h))
        clear S13
        clear hA
        obtain ⟨f0, f1, f2⟩ := Bag.cs3 S14.out 0 rfl
        obtain ⟨f3, f4, f5⟩ := Bag.cs3 S14.out 1 rfl
        have f6 := Bag.cs1 S14.out 2 rfl
        obtain ⟨f7, f8, f9⟩ := Bag.cs3 S14.out 3 rfl
        obtain ⟨f10, f11, f12⟩ := Bag.cs3 S14.out 5 rfl
        go_upto_region 14 with fail
        clear f0 f1 f2 f3 f4 f5 f6 f7 f8 f9 f10 f11 f12
        refine wp_region_held_drew (S := (fun w' => (w'.cell? ⟨w.heap.size + 1, 0, none⟩ = some (.int .i64 pk) ∧ w'.cell? ⟨w.heap.size + 1, 1, none⟩ = some (.int .i64 pn) ∧ w'.cell? ⟨w.heap.size + 1, 2, none⟩ = some (.string pt)) ∧ (w'.cell? ⟨w.heap.size + 1 + 1, 0, none⟩ = some (.slice ra M rc)))) (by kernel_rfl) ⟨Bag.cs3 (Bag.drew1 S14.out) 1 rfl, Bag.cs1 (Bag.drew1 S14.out) 2 rfl⟩ (fun hS => ?_)
        have S15 := Lib.hid (Bag.drew1 S14.out)
        clear S14
        generalize World.drew _ = w9 at hS S15 ⊢
        refine tk 0 rfl ?_
        try simp only [zp0, zp1, zp2, zp3, zp4]
        refine tk 1 rfl ?_
        try simp only [zp0, zp1, zp2, zp3, zp4]
        refine tk 2 rfl ?_
        try simp only [zp0, zp1, zp2, zp3, zp4]
        refine Reg.one_op (i := 3) rfl (by kernel_rfl) (fun K hK => ?_)
        go_simp
        go_at_call 89
        refine (HRC.out _ S15.out.old).mono ?_
        rintro e w10 ⟨a1, c1, rfl, ho, hb⟩
        have S16 := Lib.hid (show Sl.Sep w _ [_, _, _, _, _, _, _, _, Sv.ownV 128 2 a1 c1 M (cellsF rl)] from Sv.push_own S15.out hb ho)
        clear S15
        clear hb ho
        go_wp2_with fail
        refine hK.out _ _ ⟨Bag.cs3 S16.out 1 rfl, Bag.cs1 S16.out 2 rfl⟩ (fun hS => ?_)
        clear hK K
        try simp only [zp0, zp1, zp2, zp3, zp4]
        refine tk 4 rfl ?_
        try simp only [zp0, zp1, zp2, zp3, zp4]
        refine Reg.one_op (i := 5) rfl (by kernel_rfl) (fun K hK => ?_)
        go_simp
        have S17 := Lib.hid (show Sl.Sep w _ [_, _, _, _, _, _, _, _, _, Sv.ownV 40 4 (some ⟨w10.heap.size, 0, none⟩) 1 1 ([.int .i64 pk, .int .i64 pn, .string pt, .slice a1 M c1])] from Sv.push_own S16.out ((Below.refl _ _).alloc (Nat.le_refl _) _) (OwnV.madeAt w10 40 4 1 w10.heap.size #[.int .i64 pk, .int .i64 pn, .string pt, .slice a1 M c1] rfl (Nat.le_refl _) rfl (by decide)))
        clear S16
        obtain ⟨g3, hg⟩ : ∃ g', g' = w10.heap.size := ⟨_, rfl⟩
        rw [← hg] at S17 ⊢
        clear hg
        generalize w10.alloc (.cells #[.int .i64 pk, .int .i64 pn, .string pt, .slice a1 M c1] 40) = w11 at S17 ⊢
        refine hK.out _ _ ⟨Bag.cs3 S17.out 1 rfl, Bag.cs1 S17.out 2 rfl⟩ (fun hS => ?_)
        clear hK K
        try simp only [zp0, zp1, zp2, zp3, zp4]
        refine Reg.one_op (i := 6) rfl (by kernel_rfl) (fun K hK => ?_)
        refine Sv.step_append_s S17.out 7 rfl rfl _ _ 24 (by rfl) i0 (.agg #[.int .i64 0, .int .i64 0, .string ⟨#[]⟩, .slice none 0 0]) 56 Try.underlying24 HI.out.1 HI.out.2.1 HI.out.2.2.1 HI.out.2.2.2 rfl (by omega) _ (by rfl) rfl _ _ 1 _ _ ([.int .i64 pk, .int .i64 pn, .string pt, .slice a1 M c1]) (by rfl) rfl ((Sv.own_at S17.out 9 rfl).reads) rfl (by intro u hu; simp at hu; rcases hu with rfl | rfl | rfl | rfl <;> rfl) (by unfold maxLen; omega) (by omega) ?_
        intro a4' c4' w12 hA
        have S18 := Lib.hid (show Sl.Sep w _ [_, _, _, _, _, _, _, Sv.ownV 40 4 a4' c4' (k + 1) (cellsI (ys.take k) ++ ([.int .i64 pk, .int .i64 pn, .string pt, .slice a1 M c1])), _, Sv.ownV 40 4 (some ⟨g3, 0, none⟩) 1 1 ([.int .i64 pk, .int .i64 pn, .string pt, .slice a1 M c1])] from hA)
        clear S17
        clear hA
        refine hK.out _ _ ⟨Bag.cs3 S18.out 1 rfl, Bag.cs1 S18.out 2 rfl⟩ (fun hS => ?_)
        clear hK K
        try simp only [zp0, zp1, zp2, zp3, zp4]
        refine tk 7 rfl ?_
        try simp only [zp0, zp1, zp2, zp3, zp4]
        refine wpAnyH_done (by kernel_rfl) ?_ _
        obtain ⟨f0, f1, f2⟩ := Bag.cs3 S18.out 0 rfl
        obtain ⟨f3, f4, f5⟩ := Bag.cs3 S18.out 1 rfl
        have f6 := Bag.cs1 S18.out 2 rfl
        obtain ⟨f7, f8, f9⟩ := Bag.cs3 S18.out 3 rfl
        obtain ⟨f10, f11, f12⟩ := Bag.cs3 S18.out 5 rfl
        clear f0 f1 f2 f3 f4 f5 f6 f7 f8 f9 f10 f11 f12
        obtain ⟨f0, f1, f2⟩ := Bag.cs3 S18.out 5 rfl
        have hcl := (Sv.own_at S18.out 4 rfl).cap
        have hnl : ys.length ≤ c3 := by omega
        have HNL := Lib.hid hnl
        clear hnl hcl
        have hkN : (k : Int) ≤ (k : Int) := by omega
        have hNc : (k : Int) ≤ (c3 : Int) := by have := HNL.out; omega
        by_cases h9 : c3 = k
        ·
         have h8 : (c3 = k) = True := eq_true h9
         clear h9
         go_upto_region 16 with (at_builtin; refine L5.wpList_append_v S18.out 7 rfl rfl _ _ 24 (by rfl) i0 (.agg #[.int .i64 0, .int .i64 0, .string ⟨#[]⟩, .slice none 0 0]) 56 Try.underlying24 HI.out.1 HI.out.2.1 HI.out.2.2.1 HI.out.2.2.2 rfl (by omega) _ (by rfl) rfl _ _ 0 _ _ (cellsI []) (by rfl) rfl (Sl.Reads.nil (B := 0)) rfl (cellsI_one _) (by unfold maxLen; omega) (by omega) ?_; intro a5' c5' w13 hA; have SA := Lib.hid (show Sl.Sep w w13 [L4.boxR w.heap.size 26 #[.string nm3, .slice a k c, .int .i64 au3], L4.boxR (w.heap.size + 1) 28 #[.int .i64 pk, .int .i64 pn, .string pt], L4.boxR (w.heap.size + 1 + 1) 31 #[.slice ra M rc], L4.boxR (w.heap.size + 1 + 1 + 1) 26 #[.string ⟨#[]⟩, .slice none 0 0, .int .i64 0], Sv.ownV 40 4 a3 c3 k (cellsI ys), L4.boxR g1 26 #[.string nm3, .slice a3 k c3, .int .i64 au3], Bag.bag (rowsI ys), Sv.ownV 40 4 (a5') (c5') (k + 1) ((cellsI (ys.take k) ++ ([.int .i64 pk, .int .i64 pn, .string pt, .slice a1 M c1])) ++ cellsI []), Sv.ownV 128 2 a1 c1 M (cellsF rl), Sv.ownV 40 4 (some ⟨g3, 0, none⟩) 1 1 ([.int .i64 pk, .int .i64 pn, .string pt, .slice a1 M c1])] from hA); clear hA; have f0 : World.cell? _ ⟨g1, 1, none⟩ = some (.slice a3 k c3) := Bag.cell_at SA.out 5 rfl 1 rfl; have z1 := Bag.free_at SA.out 5 rfl 1)
         have S19 := SA
         clear SA S18 f0 z1
         have S20 := Lib.hid (show Sl.Sep w _ [L4.boxR w.heap.size 26 #[.string nm3, .slice a k c, .int .i64 au3], _, _, _, Sv.ownV 40 4 a3 c3 k (cellsI ys), L4.boxR g1 26 #[.string nm3, .slice a5' (k + 1) c5', .int .i64 au3], _, Sv.ownV 40 4 a5' c5' (k + 1) ((cellsI (ys.take k) ++ ([.int .i64 pk, .int .i64 pn, .string pt, .slice a1 M c1])) ++ cellsI []), _, _] from L5.put_box5 (S19.out) 5 rfl 1 (.slice a5' (k + 1) c5'))
         clear S19
         have S21 := Lib.hid (show Sl.Sep w _ [_, _, _, _, _, _, _, _] from Bag.take S20.out [0, 1, 2, 3, 5, 6, 7, 8] (by rfl) (by decide))
         clear S20
         obtain ⟨ba, hba⟩ : ∃ b, L1.inB pn (au3 + 1) 1000000 = b := ⟨_, rfl⟩
         have HIA := fun w => L1.l1In_any pn (au3 + 1) 1000000 w
         rw [hba] at HIA
         replace HIA := Lib.hid HIA
         have hau0 : 0 ≤ au3 := HAU.out.1
         have hau1 : au3 ≤ 1000000 := HAU.out.2
         have HBA := Lib.hid hba
         clear hba
         obtain ⟨f0, f1, f2⟩ := Bag.cs3 S21.out 0 rfl
         obtain ⟨f3, f4, f5⟩ := Bag.cs3 S21.out 1 rfl
         have f6 := Bag.cs1 S21.out 2 rfl
         obtain ⟨f7, f8, f9⟩ := Bag.cs3 S21.out 3 rfl
         obtain ⟨f10, f11, f12⟩ := Bag.cs3 S21.out 4 rfl
         by_cases hk1 : pk = 1
         ·
          subst hk1
          cases ba with
          | false =>
           go_wp2_with fail
           go_at_call 91
           refine (HIA.out _).mono ?_
           rintro e w14 ⟨rfl, rfl⟩
           clear f0 f1 f2 f3 f4 f5 f6 f7 f8 f9 f10 f11 f12
           obtain ⟨f0, f1, f2⟩ := Bag.cs3 S21.out 0 rfl
           obtain ⟨f3, f4, f5⟩ := Bag.cs3 S21.out 1 rfl
           have f6 := Bag.cs1 S21.out 2 rfl
           obtain ⟨f7, f8, f9⟩ := Bag.cs3 S21.out 3 rfl
           obtain ⟨f10, f11, f12⟩ := Bag.cs3 S21.out 4 rfl
           obtain ⟨z0, z1, z2⟩ := Bag.fs3 S21.out 3 rfl
           go_wp2_with fail
           clear f0 f1 f2 f3 f4 f5 f6 f7 f8 f9 f10 f11 f12 z0 z1 z2
           have S22 := Lib.hid (show Sl.Sep w _ [_, L4.boxR (w.heap.size + 1) 28 #[.int .i64 1, .int .i64 pn, .string pt], _, L4.boxR (w.heap.size + 1 + 1 + 1) 26 #[.string nm3, .slice a5' (k + 1) c5', .int .i64 au3], _, _, Sv.ownV 40 4 a5' c5' (k + 1) ((cellsI (ys.take k) ++ ([.int .i64 1, .int .i64 pn, .string pt, .slice a1 M c1])) ++ cellsI []), _] from L5.put_box5 (L5.put_box5 (L5.put_box5 (S21.out) 3 rfl 0 (.string nm3)) 3 rfl 1 (.slice a5' (k + 1) c5')) 3 rfl 2 (.int .i64 au3))
           clear S21
           obtain ⟨f0, f1, f2⟩ := Bag.cs3 S22.out 3 rfl
           refine bodyPost_ret (v := .tuple #[.agg #[.string nm3, .slice a5' (k + 1) c5', .int .i64 au3], .bool true]) (by simp [results, Try.results19, go_sem, *]) rfl ?_
           clear f0 f1 f2
           have HX9 := Lib.hid (show nextAuto au3 ⟨1, pn, pt⟩ = au3 from by unfold nextAuto; dsimp only; rw [HBA.out, Bool.and_false]; rfl)
           have hM := HM.out
           subst hM
           have S90 := Lib.hid (Bag.bag_of_one S22.out 7 (r := (LI.mk ⟨1, pn, pt⟩ a1 c1 rl).row) rfl)
           have S91 := Lib.hid (Bag.bag_join S90.out 5 7 (by decide) rfl rfl)
           have S92 := Lib.hid (Bag.bag_perm S91.out 5 rfl (rowsI_ins ys k ⟨⟨1, pn, pt⟩, a1, c1, rl⟩))
           have hlz : (ys.take k ++ ⟨⟨1, pn, pt⟩, a1, c1, rl⟩ :: ys.drop k).length = k + 1 := by rw [List.length_append, List.length_cons, List.length_take, List.length_drop]; omega
           have hcz : cellsI (ys.take k ++ ⟨⟨1, pn, pt⟩, a1, c1, rl⟩ :: ys.drop k) = (cellsI (ys.take k) ++ ([.int .i64 1, .int .i64 pn, .string pt, .slice a1 rl.length c1])) ++ cellsI [] := by rw [cellsI_append, cellsI_cons]; rw [List.drop_of_length_le (show ys.length ≤ k by omega)]; simp [cellsI]
           have S93 := Lib.hid (Bag.bag_of_one S92.out 6 (r := rowI a5' c5' (ys.take k ++ ⟨⟨1, pn, pt⟩, a1, c1, rl⟩ :: ys.drop k)) (by unfold RowS.res rowI; dsimp only; rw [hlz, hcz]; rfl))
           have S94 := Lib.hid (Bag.bag_join S93.out 6 5 (by decide) rfl rfl)
           refine ⟨⟨nm3, a5', c5', ys.take k ++ ⟨⟨1, pn, pt⟩, a1, c1, rl⟩ :: ys.drop k, au3⟩, ?_, ?_, ?_, S94.out.old⟩
           ·
            rw [HE.out]; unfold LS.v LS.cells; dsimp only; rw [hlz]
           ·
            rw [HE.out, HX9.out, HPOS.out]; unfold LS.con; dsimp only; rw [conI_ins, HCE.out]; rfl
           ·
            have h := Bag.bag_from S94.out 6 rfl
            unfold LS.rows; exact h
          | true =>
           go_wp2_with fail
           go_at_call 91
           refine (HIA.out _).mono ?_
           rintro e w14 ⟨rfl, rfl⟩
           clear f0 f1 f2 f3 f4 f5 f6 f7 f8 f9 f10 f11 f12
           obtain ⟨f0, f1, f2⟩ := Bag.cs3 S21.out 0 rfl
           obtain ⟨f3, f4, f5⟩ := Bag.cs3 S21.out 1 rfl
           have f6 := Bag.cs1 S21.out 2 rfl
           obtain ⟨f7, f8, f9⟩ := Bag.cs3 S21.out 3 rfl
           obtain ⟨f10, f11, f12⟩ := Bag.cs3 S21.out 4 rfl
           obtain ⟨z0, z1, z2⟩ := Bag.fs3 S21.out 4 rfl
           go_upto_region 18 with fail
           clear f0 f1 f2 f3 f4 f5 f6 f7 f8 f9 f10 f11 f12 z0 z1 z2
           have S22 := Lib.hid (show Sl.Sep w _ [_, L4.boxR (w.heap.size + 1) 28 #[.int .i64 1, .int .i64 pn, .string pt], _, _, L4.boxR g1 26 #[.string nm3, .slice a5' (k + 1) c5', .int .i64 pn], _, Sv.ownV 40 4 a5' c5' (k + 1) ((cellsI (ys.take k) ++ ([.int .i64 1, .int .i64 pn, .string pt, .slice a1 M c1])) ++ cellsI []), _] from L5.put_box5 (S21.out) 4 rfl 2 (.int .i64 pn))
           clear S21
           obtain ⟨f0, f1, f2⟩ := Bag.cs3 S22.out 0 rfl
           obtain ⟨f3, f4, f5⟩ := Bag.cs3 S22.out 1 rfl
           have f6 := Bag.cs1 S22.out 2 rfl
           obtain ⟨f7, f8, f9⟩ := Bag.cs3 S22.out 3 rfl
           obtain ⟨f10, f11, f12⟩ := Bag.cs3 S22.out 4 rfl
           obtain ⟨z0, z1, z2⟩ := Bag.fs3 S22.out 3 rfl
           go_wp2_with fail
           clear f0 f1 f2 f3 f4 f5 f6 f7 f8 f9 f10 f11 f12 z0 z1 z2
           have S23 := Lib.hid (show Sl.Sep w _ [_, _, _, L4.boxR (w.heap.size + 1 + 1 + 1) 26 #[.string nm3, .slice a5' (k + 1) c5', .int .i64 pn], _, _, _, _] from L5.put_box5 (L5.put_box5 (L5.put_box5 (S22.out) 3 rfl 0 (.string nm3)) 3 rfl 1 (.slice a5' (k + 1) c5')) 3 rfl 2 (.int .i64 pn))
           clear S22
           obtain ⟨f0, f1, f2⟩ := Bag.cs3 S23.out 3 rfl
           refine bodyPost_ret (v := .tuple #[.agg #[.string nm3, .slice a5' (k + 1) c5', .int .i64 pn], .bool true]) (by simp [results, Try.results19, go_sem, *]) rfl ?_
           clear f0 f1 f2
           have HX9 := Lib.hid (show nextAuto au3 ⟨1, pn, pt⟩ = pn from by unfold nextAuto; dsimp only; rw [HBA.out]; rfl)
           have hM := HM.out
           subst hM
           have S90 := Lib.hid (Bag.bag_of_one S23.out 7 (r := (LI.mk ⟨1, pn, pt⟩ a1 c1 rl).row) rfl)
           have S91 := Lib.hid (Bag.bag_join S90.out 5 7 (by decide) rfl rfl)
           have S92 := Lib.hid (Bag.bag_perm S91.out 5 rfl (rowsI_ins ys k ⟨⟨1, pn, pt⟩, a1, c1, rl⟩))
           have hlz : (ys.take k ++ ⟨⟨1, pn, pt⟩, a1, c1, rl⟩ :: ys.drop k).length = k + 1 := by rw [List.length_append, List.length_cons, List.length_take, List.length_drop]; omega
           have hcz : cellsI (ys.take k ++ ⟨⟨1, pn, pt⟩, a1, c1, rl⟩ :: ys.drop k) = (cellsI (ys.take k) ++ ([.int .i64 1, .int .i64 pn, .string pt, .slice a1 rl.length c1])) ++ cellsI [] := by rw [cellsI_append, cellsI_cons]; rw [List.drop_of_length_le (show ys.length ≤ k by omega)]; simp [cellsI]
           have S93 := Lib.hid (Bag.bag_of_one S92.out 6 (r := rowI a5' c5' (ys.take k ++ ⟨⟨1, pn, pt⟩, a1, c1, rl⟩ :: ys.drop k)) (by unfold RowS.res rowI; dsimp only; rw [hlz, hcz]; rfl))
           have S94 := Lib.hid (Bag.bag_join S93.out 6 5 (by decide) rfl rfl)
           refine ⟨⟨nm3, a5', c5', ys.take k ++ ⟨⟨1, pn, pt⟩, a1, c1, rl⟩ :: ys.drop k, pn⟩, ?_, ?_, ?_, S94.out.old⟩
           ·
            rw [HE.out]; unfold LS.v LS.cells; dsimp only; rw [hlz]
           ·
            rw [HE.out, HX9.out, HPOS.out]; unfold LS.con; dsimp only; rw [conI_ins, HCE.out]; rfl
           ·
            have h := Bag.bag_from S94.out 6 rfl
            unfold LS.rows; exact h
         ·
          have hk2 : (pk == 1) = false := by simpa using hk1
          clear f0 f1 f2 f3 f4 f5 f6 f7 f8 f9 f10 f11 f12
          obtain ⟨f0, f1, f2⟩ := Bag.cs3 S21.out 0 rfl
          obtain ⟨f3, f4, f5⟩ := Bag.cs3 S21.out 1 rfl
          have f6 := Bag.cs1 S21.out 2 rfl
          obtain ⟨f7, f8, f9⟩ := Bag.cs3 S21.out 3 rfl
          obtain ⟨f10, f11, f12⟩ := Bag.cs3 S21.out 4 rfl
          obtain ⟨z0, z1, z2⟩ := Bag.fs3 S21.out 3 rfl
          go_wp2_with fail
          clear f0 f1 f2 f3 f4 f5 f6 f7 f8 f9 f10 f11 f12 z0 z1 z2
          have S22 := Lib.hid (show Sl.Sep w _ [_, _, _, L4.boxR (w.heap.size + 1 + 1 + 1) 26 #[.string nm3, .slice a5' (k + 1) c5', .int .i64 au3], _, _, _, _] from L5.put_box5 (L5.put_box5 (L5.put_box5 (S21.out) 3 rfl 0 (.string nm3)) 3 rfl 1 (.slice a5' (k + 1) c5')) 3 rfl 2 (.int .i64 au3))
          clear S21
          obtain ⟨f0, f1, f2⟩ := Bag.cs3 S22.out 3 rfl
          refine bodyPost_ret (v := .tuple #[.agg #[.string nm3, .slice a5' (k + 1) c5', .int .i64 au3], .bool true]) (by simp [results, Try.results19, go_sem, *]) rfl ?_
          clear f0 f1 f2
          have HX9 := Lib.hid (show nextAuto au3 ⟨pk, pn, pt⟩ = au3 from by unfold nextAuto; dsimp only; rw [hk2]; rfl)
          have hM := HM.out
          subst hM
          have S90 := Lib.hid (Bag.bag_of_one S22.out 7 (r := (LI.mk ⟨pk, pn, pt⟩ a1 c1 rl).row) rfl)
          have S91 := Lib.hid (Bag.bag_join S90.out 5 7 (by decide) rfl rfl)
          have S92 := Lib.hid (Bag.bag_perm S91.out 5 rfl (rowsI_ins ys k ⟨⟨pk, pn, pt⟩, a1, c1, rl⟩))
          have hlz : (ys.take k ++ ⟨⟨pk, pn, pt⟩, a1, c1, rl⟩ :: ys.drop k).length = k + 1 := by rw [List.length_append, List.length_cons, List.length_take, List.length_drop]; omega
          have hcz : cellsI (ys.take k ++ ⟨⟨pk, pn, pt⟩, a1, c1, rl⟩ :: ys.drop k) = (cellsI (ys.take k) ++ ([.int .i64 pk, .int .i64 pn, .string pt, .slice a1 rl.length c1])) ++ cellsI [] := by rw [cellsI_append, cellsI_cons]; rw [List.drop_of_length_le (show ys.length ≤ k by omega)]; simp [cellsI]
          have S93 := Lib.hid (Bag.bag_of_one S92.out 6 (r := rowI a5' c5' (ys.take k ++ ⟨⟨pk, pn, pt⟩, a1, c1, rl⟩ :: ys.drop k)) (by unfold RowS.res rowI; dsimp only; rw [hlz, hcz]; rfl))
          have S94 := Lib.hid (Bag.bag_join S93.out 6 5 (by decide) rfl rfl)
          refine ⟨⟨nm3, a5', c5', ys.take k ++ ⟨⟨pk, pn, pt⟩, a1, c1, rl⟩ :: ys.drop k, au3⟩, ?_, ?_, ?_, S94.out.old⟩
          ·
           rw [HE.out]; unfold LS.v LS.cells; dsimp only; rw [hlz]
          ·
           rw [HE.out, HX9.out, HPOS.out]; unfold LS.con; dsimp only; rw [conI_ins, HCE.out]; rfl
          ·
           have h := Bag.bag_from S94.out 6 rfl
           unfold LS.rows; exact h
        ·
         have h8 : (c3 = k) = False := eq_false h9
         clear h9
         go_upto_region 16 with (at_builtin; refine L5.wpList_append_v S18.out 7 rfl rfl _ _ 24 (by rfl) i0 (.agg #[.int .i64 0, .int .i64 0, .string ⟨#[]⟩, .slice none 0 0]) 56 Try.underlying24 HI.out.1 HI.out.2.1 HI.out.2.2.1 HI.out.2.2.2 rfl (by omega) _ (by rfl) rfl _ _ 0 _ _ (cellsI []) (by rfl) rfl (Sl.Reads.nil (B := 0)) rfl (cellsI_one _) (by unfold maxLen; omega) (by omega) ?_; intro a5' c5' w13 hA; have SA := Lib.hid (show Sl.Sep w w13 [L4.boxR w.heap.size 26 #[.string nm3, .slice a k c, .int .i64 au3], L4.boxR (w.heap.size + 1) 28 #[.int .i64 pk, .int .i64 pn, .string pt], L4.boxR (w.heap.size + 1 + 1) 31 #[.slice ra M rc], L4.boxR (w.heap.size + 1 + 1 + 1) 26 #[.string ⟨#[]⟩, .slice none 0 0, .int .i64 0], Sv.ownV 40 4 a3 c3 k (cellsI ys), L4.boxR g1 26 #[.string nm3, .slice a3 k c3, .int .i64 au3], Bag.bag (rowsI ys), Sv.ownV 40 4 (a5') (c5') (k + 1) ((cellsI (ys.take k) ++ ([.int .i64 pk, .int .i64 pn, .string pt, .slice a1 M c1])) ++ cellsI []), Sv.ownV 128 2 a1 c1 M (cellsF rl), Sv.ownV 40 4 (some ⟨g3, 0, none⟩) 1 1 ([.int .i64 pk, .int .i64 pn, .string pt, .slice a1 M c1])] from hA); clear hA; have f0 : World.cell? _ ⟨g1, 1, none⟩ = some (.slice a3 k c3) := Bag.cell_at SA.out 5 rfl 1 rfl; have z1 := Bag.free_at SA.out 5 rfl 1)
         have S19 := SA
         clear SA S18 f0 z1
         have S20 := Lib.hid (show Sl.Sep w _ [L4.boxR w.heap.size 26 #[.string nm3, .slice a k c, .int .i64 au3], _, _, _, Sv.ownV 40 4 a3 c3 k (cellsI ys), L4.boxR g1 26 #[.string nm3, .slice a5' (k + 1) c5', .int .i64 au3], _, Sv.ownV 40 4 a5' c5' (k + 1) ((cellsI (ys.take k) ++ ([.int .i64 pk, .int .i64 pn, .string pt, .slice a1 M c1])) ++ cellsI []), _, _] from L5.put_box5 (S19.out) 5 rfl 1 (.slice a5' (k + 1) c5'))
         clear S19
         have S21 := Lib.hid (show Sl.Sep w _ [_, _, _, _, _, _, _, _] from Bag.take S20.out [0, 1, 2, 3, 5, 6, 7, 8] (by rfl) (by decide))
         clear S20
         obtain ⟨ba, hba⟩ : ∃ b, L1.inB pn (au3 + 1) 1000000 = b := ⟨_, rfl⟩
         have HIA := fun w => L1.l1In_any pn (au3 + 1) 1000000 w
         rw [hba] at HIA
         replace HIA := Lib.hid HIA
         have hau0 : 0 ≤ au3 := HAU.out.1
         have hau1 : au3 ≤ 1000000 := HAU.out.2
         have HBA := Lib.hid hba
         clear hba
         obtain ⟨f0, f1, f2⟩ := Bag.cs3 S21.out 0 rfl
         obtain ⟨f3, f4, f5⟩ := Bag.cs3 S21.out 1 rfl
         have f6 := Bag.cs1 S21.out 2 rfl
         obtain ⟨f7, f8, f9⟩ := Bag.cs3 S21.out 3 rfl
         obtain ⟨f10, f11, f12⟩ := Bag.cs3 S21.out 4 rfl
         by_cases hk1 : pk = 1
         ·
          subst hk1
          cases ba with
          | false =>
           go_wp2_with fail
           go_at_call 91
           refine (HIA.out _).mono ?_
           rintro e w14 ⟨rfl, rfl⟩
           clear f0 f1 f2 f3 f4 f5 f6 f7 f8 f9 f10 f11 f12
           obtain ⟨f0, f1, f2⟩ := Bag.cs3 S21.out 0 rfl
           obtain ⟨f3, f4, f5⟩ := Bag.cs3 S21.out 1 rfl
           have f6 := Bag.cs1 S21.out 2 rfl
           obtain ⟨f7, f8, f9⟩ := Bag.cs3 S21.out 3 rfl
           obtain ⟨f10, f11, f12⟩ := Bag.cs3 S21.out 4 rfl
           obtain ⟨z0, z1, z2⟩ := Bag.fs3 S21.out 3 rfl
           go_wp2_with fail
           clear f0 f1 f2 f3 f4 f5 f6 f7 f8 f9 f10 f11 f12 z0 z1 z2
           have S22 := Lib.hid (show Sl.Sep w _ [_, L4.boxR (w.heap.size + 1) 28 #[.int .i64 1, .int .i64 pn, .string pt], _, L4.boxR (w.heap.size + 1 + 1 + 1) 26 #[.string nm3, .slice a5' (k + 1) c5', .int .i64 au3], _, _, Sv.ownV 40 4 a5' c5' (k + 1) ((cellsI (ys.take k) ++ ([.int .i64 1, .int .i64 pn, .string pt, .slice a1 M c1])) ++ cellsI []), _] from L5.put_box5 (L5.put_box5 (L5.put_box5 (S21.out) 3 rfl 0 (.string nm3)) 3 rfl 1 (.slice a5' (k + 1) c5')) 3 rfl 2 (.int .i64 au3))
           clear S21
           obtain ⟨f0, f1, f2⟩ := Bag.cs3 S22.out 3 rfl
           refine bodyPost_ret (v := .tuple #[.agg #[.string nm3, .slice a5' (k + 1) c5', .int .i64 au3], .bool true]) (by simp [results, Try.results19, go_sem, *]) rfl ?_
           clear f0 f1 f2
           have HX9 := Lib.hid (show nextAuto au3 ⟨1, pn, pt⟩ = au3 from by unfold nextAuto; dsimp only; rw [HBA.out, Bool.and_false]; rfl)
           have hM := HM.out
           subst hM
           have S90 := Lib.hid (Bag.bag_of_one S22.out 7 (r := (LI.mk ⟨1, pn, pt⟩ a1 c1 rl).row) rfl)
           have S91 := Lib.hid (Bag.bag_join S90.out 5 7 (by decide) rfl rfl)
           have S92 := Lib.hid (Bag.bag_perm S91.out 5 rfl (rowsI_ins ys k ⟨⟨1, pn, pt⟩, a1, c1, rl⟩))
           have hlz : (ys.take k ++ ⟨⟨1, pn, pt⟩, a1, c1, rl⟩ :: ys.drop k).length = k + 1 := by rw [List.length_append, List.length_cons, List.length_take, List.length_drop]; omega
           have hcz : cellsI (ys.take k ++ ⟨⟨1, pn, pt⟩, a1, c1, rl⟩ :: ys.drop k) = (cellsI (ys.take k) ++ ([.int .i64 1, .int .i64 pn, .string pt, .slice a1 rl.length c1])) ++ cellsI [] := by rw [cellsI_append, cellsI_cons]; rw [List.drop_of_length_le (show ys.length ≤ k by omega)]; simp [cellsI]
           have S93 := Lib.hid (Bag.bag_of_one S92.out 6 (r := rowI a5' c5' (ys.take k ++ ⟨⟨1, pn, pt⟩, a1, c1, rl⟩ :: ys.drop k)) (by unfold RowS.res rowI; dsimp only; rw [hlz, hcz]; rfl))
           have S94 := Lib.hid (Bag.bag_join S93.out 6 5 (by decide) rfl rfl)
           refine ⟨⟨nm3, a5', c5', ys.take k ++ ⟨⟨1, pn, pt⟩, a1, c1, rl⟩ :: ys.drop k, au3⟩, ?_, ?_, ?_, S94.out.old⟩
           ·
            rw [HE.out]; unfold LS.v LS.cells; dsimp only; rw [hlz]
           ·
            rw [HE.out, HX9.out, HPOS.out]; unfold LS.con; dsimp only; rw [conI_ins, HCE.out]; rfl
           ·
            have h := Bag.bag_from S94.out 6 rfl
            unfold LS.rows; exact h
          | true =>
           go_wp2_with fail
           go_at_call 91
           refine (HIA.out _).mono ?_
           rintro e w14 ⟨rfl, rfl⟩
           clear f0 f1 f2 f3 f4 f5 f6 f7 f8 f9 f10 f11 f12
           obtain ⟨f0, f1, f2⟩ := Bag.cs3 S21.out 0 rfl
           obtain ⟨f3, f4, f5⟩ := Bag.cs3 S21.out 1 rfl
           have f6 := Bag.cs1 S21.out 2 rfl
           obtain ⟨f7, f8, f9⟩ := Bag.cs3 S21.out 3 rfl
           obtain ⟨f10, f11, f12⟩ := Bag.cs3 S21.out 4 rfl
           obtain ⟨z0, z1, z2⟩ := Bag.fs3 S21.out 4 rfl
           go_upto_region 18 with fail
           clear f0 f1 f2 f3 f4 f5 f6 f7 f8 f9 f10 f11 f12 z0 z1 z2
           have S22 := Lib.hid (show Sl.Sep w _ [_, L4.boxR (w.heap.size + 1) 28 #[.int .i64 1, .int .i64 pn, .string pt], _, _, L4.boxR g1 26 #[.string nm3, .slice a5' (k + 1) c5', .int .i64 pn], _, Sv.ownV 40 4 a5' c5' (k + 1) ((cellsI (ys.take k) ++ ([.int .i64 1, .int .i64 pn, .string pt, .slice a1 M c1])) ++ cellsI []), _] from L5.put_box5 (S21.out) 4 rfl 2 (.int .i64 pn))
           clear S21
           obtain ⟨f0, f1, f2⟩ := Bag.cs3 S22.out 0 rfl
           obtain ⟨f3, f4, f5⟩ := Bag.cs3 S22.out 1 rfl
           have f6 := Bag.cs1 S22.out 2 rfl
           obtain ⟨f7, f8, f9⟩ := Bag.cs3 S22.out 3 rfl
           obtain ⟨f10, f11, f12⟩ := Bag.cs3 S22.out 4 rfl
           obtain ⟨z0, z1, z2⟩ := Bag.fs3 S22.out 3 rfl
           go_wp2_with fail
           clear f0 f1 f2 f3 f4 f5 f6 f7 f8 f9 f10 f11 f12 z0 z1 z2
           have S23 := Lib.hid (show Sl.Sep w _ [_, _, _, L4.boxR (w.heap.size + 1 + 1 + 1) 26 #[.string nm3, .slice a5' (k + 1) c5', .int .i64 pn], _, _, _, _] from L5.put_box5 (L5.put_box5 (L5.put_box5 (S22.out) 3 rfl 0 (.string nm3)) 3 rfl 1 (.slice a5' (k + 1) c5')) 3 rfl 2 (.int .i64 pn))
           clear S22
           obtain ⟨f0, f1, f2⟩ := Bag.cs3 S23.out 3 rfl
           refine bodyPost_ret (v := .tuple #[.agg #[.string nm3, .slice a5' (k + 1) c5', .int .i64 pn], .bool true]) (by simp [results, Try.results19, go_sem, *]) rfl ?_
           clear f0 f1 f2
           have HX9 := Lib.hid (show nextAuto au3 ⟨1, pn, pt⟩ = pn from by unfold nextAuto; dsimp only; rw [HBA.out]; rfl)
           have hM := HM.out
           subst hM
           have S90 := Lib.hid (Bag.bag_of_one S23.out 7 (r := (LI.mk ⟨1, pn, pt⟩ a1 c1 rl).row) rfl)
           have S91 := Lib.hid (Bag.bag_join S90.out 5 7 (by decide) rfl rfl)
           have S92 := Lib.hid (Bag.bag_perm S91.out 5 rfl (rowsI_ins ys k ⟨⟨1, pn, pt⟩, a1, c1, rl⟩))
           have hlz : (ys.take k ++ ⟨⟨1, pn, pt⟩, a1, c1, rl⟩ :: ys.drop k).length = k + 1 := by rw [List.length_append, List.length_cons, List.length_take, List.length_drop]; omega
           have hcz : cellsI (ys.take k ++ ⟨⟨1, pn, pt⟩, a1, c1, rl⟩ :: ys.drop k) = (cellsI (ys.take k) ++ ([.int .i64 1, .int .i64 pn, .string pt, .slice a1 rl.length c1])) ++ cellsI [] := by rw [cellsI_append, cellsI_cons]; rw [List.drop_of_length_le (show ys.length ≤ k by omega)]; simp [cellsI]
           have S93 := Lib.hid (Bag.bag_of_one S92.out 6 (r := rowI a5' c5' (ys.take k ++ ⟨⟨1, pn, pt⟩, a1, c1, rl⟩ :: ys.drop k)) (by unfold RowS.res rowI; dsimp only; rw [hlz, hcz]; rfl))
           have S94 := Lib.hid (Bag.bag_join S93.out 6 5 (by decide) rfl rfl)
           refine ⟨⟨nm3, a5', c5', ys.take k ++ ⟨⟨1, pn, pt⟩, a1, c1, rl⟩ :: ys.drop k, pn⟩, ?_, ?_, ?_, S94.out.old⟩
           ·
            rw [HE.out]; unfold LS.v LS.cells; dsimp only; rw [hlz]
           ·
            rw [HE.out, HX9.out, HPOS.out]; unfold LS.con; dsimp only; rw [conI_ins, HCE.out]; rfl
           ·
            have h := Bag.bag_from S94.out 6 rfl
            unfold LS.rows; exact h
         ·
          have hk2 : (pk == 1) = false := by simpa using hk1
          clear f0 f1 f2 f3 f4 f5 f6 f7 f8 f9 f10 f11 f12
          obtain ⟨f0, f1, f2⟩ := Bag.cs3 S21.out 0 rfl
          obtain ⟨f3, f4, f5⟩ := Bag.cs3 S21.out 1 rfl
          have f6 := Bag.cs1 S21.out 2 rfl
          obtain ⟨f7, f8, f9⟩ := Bag.cs3 S21.out 3 rfl
          obtain ⟨f10, f11, f12⟩ := Bag.cs3 S21.out 4 rfl
          obtain ⟨z0, z1, z2⟩ := Bag.fs3 S21.out 3 rfl
          go_wp2_with fail
          clear f0 f1 f2 f3 f4 f5 f6 f7 f8 f9 f10 f11 f12 z0 z1 z2
          have S22 := Lib.hid (show Sl.Sep w _ [_, _, _, L4.boxR (w.heap.size + 1 + 1 + 1) 26 #[.string nm3, .slice a5' (k + 1) c5', .int .i64 au3], _, _, _, _] from L5.put_box5 (L5.put_box5 (L5.put_box5 (S21.out) 3 rfl 0 (.string nm3)) 3 rfl 1 (.slice a5' (k + 1) c5')) 3 rfl 2 (.int .i64 au3))
          clear S21
          obtain ⟨f0, f1, f2⟩ := Bag.cs3 S22.out 3 rfl
          refine bodyPost_ret (v := .tuple #[.agg #[.string nm3, .slice a5' (k + 1) c5', .int .i64 au3], .bool true]) (by simp [results, Try.results19, go_sem, *]) rfl ?_
          clear f0 f1 f2
          have HX9 := Lib.hid (show nextAuto au3 ⟨pk, pn, pt⟩ = au3 from by unfold nextAuto; dsimp only; rw [hk2]; rfl)
          have hM := HM.out
          subst hM
          have S90 := Lib.hid (Bag.bag_of_one S22.out 7 (r := (LI.mk ⟨pk, pn, pt⟩ a1 c1 rl).row) rfl)
          have S91 := Lib.hid (Bag.bag_join S90.out 5 7 (by decide) rfl rfl)
          have S92 := Lib.hid (Bag.bag_perm S91.out 5 rfl (rowsI_ins ys k ⟨⟨pk, pn, pt⟩, a1, c1, rl⟩))
          have hlz : (ys.take k ++ ⟨⟨pk, pn, pt⟩, a1, c1, rl⟩ :: ys.drop k).length = k + 1 := by rw [List.length_append, List.length_cons, List.length_take, List.length_drop]; omega
          have hcz : cellsI (ys.take k ++ ⟨⟨pk, pn, pt⟩, a1, c1, rl⟩ :: ys.drop k) = (cellsI (ys.take k) ++ ([.int .i64 pk, .int .i64 pn, .string pt, .slice a1 rl.length c1])) ++ cellsI [] := by rw [cellsI_append, cellsI_cons]; rw [List.drop_of_length_le (show ys.length ≤ k by omega)]; simp [cellsI]
          have S93 := Lib.hid (Bag.bag_of_one S92.out 6 (r := rowI a5' c5' (ys.take k ++ ⟨⟨pk, pn, pt⟩, a1, c1, rl⟩ :: ys.drop k)) (by unfold RowS.res rowI; dsimp only; rw [hlz, hcz]; rfl))
          have S94 := Lib.hid (Bag.bag_join S93.out 6 5 (by decide) rfl rfl)
          refine ⟨⟨nm3, a5', c5', ys.take k ++ ⟨⟨pk, pn, pt⟩, a1, c1, rl⟩ :: ys.drop k, au3⟩, ?_, ?_, ?_, S94.out.old⟩
          ·
           rw [HE.out]; unfold LS.v LS.cells; dsimp only; rw [hlz]
          ·
           rw [HE.out, HX9.out, HPOS.out]; unfold LS.con; dsimp only; rw [conI_ins, HCE.out]; rfl
          ·
           have h := Bag.bag_from S94.out 6 rfl
           unfold LS.rows; exact h
end Go.Proofs.Ytojcdmgcbgpdmaa.L6

namespace Go.Proofs.Ytojcdmgcbgpdmaa.L6
open L4 (K isK cmpK R inR encU)
open L5 (F isR isN cellsF encR eqR Small)
open Go.ChangeShapes Go.WideShapes Go.ChangeAt Go.RowKit Mem Sl Ex L2 Sv Bag

set_option maxHeartbeats 8000000 in
theorem specAddItem_any (y : LS) (k0 : K) (ra : Option Addr) (rc : Nat) (rl : List F) (hf : FitS y.con) (hkt : k0.text.size ≤ 1099511627776) (hrl : rl.length ≤ 1048576) (hrs : Small rl) (w : World) (hr : RowsRd w w.heap.size y.rows) (hrr : Reads w w.heap.size ra (cellsF rl)) :
  Calls Try.prog 45 #[y.v, k0.v, .agg #[.slice ra rl.length rc]] w (GaveSB w (addI y.con k0 rl).1 (addI y.con k0 rl).2) := by
 obtain ⟨pk, pn, pt⟩ := k0
 unfold L4.K.v
 try dsimp only at hkt ⊢
 have HCP := Lib.hid (fun w' (h : Below w.heap.size w w') => l6Copy_any y hf w' ((hr.below h).more h.size))
 have HFD := Lib.hid (fun w' (h : Below w.heap.size w w') => specFindItem_any y ⟨pk, pn, pt⟩ hf w' ((hr.below h).more h.size))
 have HPT := Lib.hid (fun w' (h : Below w.heap.size w w') => specPutItem_any y ⟨pk, pn, pt⟩ ra rc rl hf hkt hrl hrs w' ((hr.below h).more h.size) ((hrr.below h).more h.size))
 have HR0 := Lib.hid (fndI_range y.con.items ⟨pk, pn, pt⟩)
 obtain ⟨name, a, c, xs, auto⟩ := y
 have HR := Lib.hid (fun w' (h : Below w.heap.size w w') => LS.outer (hr.below h))
 have HX := Lib.hid (fun w' (h : Below w.heap.size w w') => (LS.inner (hr.below h)).more h.size)
 have HF := Lib.hid hf.items
 have HNM := Lib.hid hf.name
 have hl := hf.len
 simp only [LS.con, conI_length] at hl
 dsimp only [LS.con] at HR HX HF HNM
 try unfold LS.v LS.cells LS.con
 try dsimp only
 obtain ⟨N, hN⟩ : ∃ n, n = xs.length := ⟨_, rfl⟩
 rw [← hN] at hl ⊢
 have hl' : (N : Int) ≤ 1048576 := by omega
 have HN := Lib.hid hN
 clear hN hr hf
 dsimp only [LS.v, LS.cells, LS.con] at HCP HFD HPT HR0
 rw [← HN.out] at HCP HFD HPT
 obtain ⟨M, hM⟩ : ∃ M, M = rl.length := ⟨_, rfl⟩
 rw [← hM] at HPT ⊢
 clear hM hrr hrl
 obtain ⟨res, hres⟩ : ∃ r, addI ⟨name, conI xs, auto⟩ ⟨pk, pn, pt⟩ rl = r := ⟨_, rfl⟩
 rw [hres]
 obtain ⟨pu, hpu⟩ : ∃ r, putI ⟨name, conI xs, auto⟩ ⟨pk, pn, pt⟩ rl = r := ⟨_, rfl⟩
 rw [hpu] at HPT
 obtain ⟨fi, hfi⟩ : ∃ i, fndI (conI xs) ⟨pk, pn, pt⟩ = i := ⟨_, rfl⟩
 rw [hfi] at HFD HR0
 have HP := Lib.hid (show res = if 0 ≤ fi then (⟨name, conI xs, auto⟩, false) else pu from by rw [← hres, ← hpu, ← hfi]; rfl)
 clear hres hpu hfi
 have S1 := Lib.hid (show Sl.Sep w _ [_, _, _, _] from L4.push_box (L4.push_box (L4.push_box (L4.push_box (Sl.Sep.start w) 26 #[.string name, .slice a N c, .int .i64 auto] (w.heap.size) (by simp)) 28 #[.int .i64 pk, .int .i64 pn, .string pt] (w.heap.size + 1) (by simp)) 31 #[.slice ra M rc] (w.heap.size + 1 + 1) (by simp)) 26 #[.string ⟨#[]⟩, .slice none 0 0, .int .i64 0] (w.heap.size + 1 + 1 + 1) (by simp))
 obtain ⟨wa, hwa⟩ : ∃ u, u = ((((w.alloc (.cells #[.string name, .slice a N c, .int .i64 auto] 26)).alloc (.cells #[.int .i64 pk, .int .i64 pn, .string pt] 28)).alloc (.cells #[.slice ra M rc] 31)).alloc (.cells #[.string ⟨#[]⟩, .slice none 0 0, .int .i64 0] 26)) := ⟨_, rfl⟩
 rw [← hwa] at S1
 go_enter Try.func45, Try.ntmps45
 go_upto_region 1 with fail
 rw [← hwa]
 clear hwa
 obtain ⟨f0, f1, f2⟩ := Bag.cs3 S1.out 0 rfl
 obtain ⟨f3, f4, f5⟩ := Bag.cs3 S1.out 1 rfl
 have f6 := Bag.cs1 S1.out 2 rfl
 obtain ⟨f7, f8, f9⟩ := Bag.cs3 S1.out 3 rfl
 go_wp2_with fail
 go_at_call 88
 refine (HFD.out _ S1.out.old).mono ?_
 rintro e w1 ⟨rfl, hb⟩
 clear f0 f1 f2 f3 f4 f5 f6 f7 f8 f9
 have S2 := Lib.hid (S1.out.keep hb)
 clear S1
 clear hb
 obtain ⟨f0, f1, f2⟩ := Bag.cs3 S2.out 0 rfl
 obtain ⟨f3, f4, f5⟩ := Bag.cs3 S2.out 1 rfl
 have f6 := Bag.cs1 S2.out 2 rfl
 obtain ⟨f7, f8, f9⟩ := Bag.cs3 S2.out 3 rfl
 by_cases h0 : 0 ≤ fi
 ·
  have HE := Lib.hid (show res = (⟨name, conI xs, auto⟩, false) from by rw [HP.out, if_pos h0])
  go_wp2_with fail
  go_at_call 87
  refine (HCP.out _ S2.out.old).mono ?_
  rintro e w2 ⟨⟨nm3, a3, c3, ys, au3⟩, rfl, hcon, ho, hb⟩
  clear f0 f1 f2 f3 f4 f5 f6 f7 f8 f9
  have S3 := Lib.hid (show Sl.Sep w _ [L4.boxR w.heap.size 26 #[.string name, .slice a N c, .int .i64 auto], L4.boxR (w.heap.size + 1) 28 #[.int .i64 pk, .int .i64 pn, .string pt], L4.boxR (w.heap.size + 1 + 1) 31 #[.slice ra M rc], L4.boxR (w.heap.size + 1 + 1 + 1) 26 #[.string ⟨#[]⟩, .slice none 0 0, .int .i64 0], Bag.bag ((LS.mk nm3 a3 c3 ys au3).rows)] from Bag.push_bag S2.out hb ho)
  clear S2
  clear hb ho
  have HCON := Lib.hid hcon
  clear hcon
  simp only [LS.v, LS.cells]
  obtain ⟨f0, f1, f2⟩ := Bag.cs3 S3.out 3 rfl
  obtain ⟨z0, z1, z2⟩ := Bag.fs3 S3.out 3 rfl
  go_wp2_with fail
  clear f0 f1 f2 z0 z1 z2
  have S4 := Lib.hid (show Sl.Sep w _ [_, _, _, L4.boxR (w.heap.size + 1 + 1 + 1) 26 #[.string nm3, .slice a3 ys.length c3, .int .i64 au3], _] from L5.put_box5 (L5.put_box5 (L5.put_box5 (S3.out) 3 rfl 0 (.string nm3)) 3 rfl 1 (.slice a3 ys.length c3)) 3 rfl 2 (.int .i64 au3))
  clear S3
  obtain ⟨f0, f1, f2⟩ := Bag.cs3 S4.out 3 rfl
  refine bodyPost_ret (v := .tuple #[.agg #[.string nm3, .slice a3 ys.length c3, .int .i64 au3], .bool false]) (by simp [results, Try.results45, go_sem, *]) rfl ?_
  exact ⟨⟨nm3, a3, c3, ys, au3⟩, by rw [HE.out]; rfl, by rw [HE.out]; exact HCON.out, Bag.bag_from S4.out 4 rfl, S4.out.old⟩
 ·
  have HE := Lib.hid (show res = pu from by rw [HP.out, if_neg h0])
  have h1 : fi < 0 := by omega
  go_wp2_with fail
  go_at_call 19
  refine (HPT.out _ S2.out.old).mono ?_
  rintro e w2 ⟨⟨nm3, a3, c3, ys, au3⟩, rfl, hcon, ho, hb⟩
  clear f0 f1 f2 f3 f4 f5 f6 f7 f8 f9
  have S3 := Lib.hid (show Sl.Sep w _ [L4.boxR w.heap.size 26 #[.string name, .slice a N c, .int .i64 auto], L4.boxR (w.heap.size + 1) 28 #[.int .i64 pk, .int .i64 pn, .string pt], L4.boxR (w.heap.size + 1 + 1) 31 #[.slice ra M rc], L4.boxR (w.heap.size + 1 + 1 + 1) 26 #[.string ⟨#[]⟩, .slice none 0 0, .int .i64 0], Bag.bag ((LS.mk nm3 a3 c3 ys au3).rows)] from Bag.push_bag S2.out hb ho)
  clear S2
  clear hb ho
  have HCON := Lib.hid hcon
  clear hcon
  simp only [LS.v, LS.cells]
  obtain ⟨pb, hpb⟩ : ∃ b, pu.2 = b := ⟨_, rfl⟩
  rw [hpb]
  have HPB := Lib.hid hpb
  clear hpb
  obtain ⟨f0, f1, f2⟩ := Bag.cs3 S3.out 3 rfl
  obtain ⟨z0, z1, z2⟩ := Bag.fs3 S3.out 3 rfl
  go_wp2_with fail
  clear f0 f1 f2 z0 z1 z2
  have S4 := Lib.hid (show Sl.Sep w _ [_, _, _, L4.boxR (w.heap.size + 1 + 1 + 1) 26 #[.string nm3, .slice a3 ys.length c3, .int .i64 au3], _] from L5.put_box5 (L5.put_box5 (L5.put_box5 (S3.out) 3 rfl 0 (.string nm3)) 3 rfl 1 (.slice a3 ys.length c3)) 3 rfl 2 (.int .i64 au3))
  clear S3
  obtain ⟨f0, f1, f2⟩ := Bag.cs3 S4.out 3 rfl
  refine bodyPost_ret (v := .tuple #[.agg #[.string nm3, .slice a3 ys.length c3, .int .i64 au3], .bool pb]) (by simp [results, Try.results45, go_sem, *]) rfl ?_
  exact ⟨⟨nm3, a3, c3, ys, au3⟩, by rw [HE.out, HPB.out]; rfl, by rw [HE.out]; exact HCON.out, Bag.bag_from S4.out 4 rfl, S4.out.old⟩
end Go.Proofs.Ytojcdmgcbgpdmaa.L6

set_option linter.unusedSimpArgs false
namespace Go.Proofs.Ytojcdmgcbgpdmaa.L6
open L4 (K isK cmpK R inR encU)
open L5 (F isR isN cellsF encR eqR Small)
open Go.ChangeShapes Go.WideShapes Go.ChangeAt Go.RowKit Mem Sl Ex L2 Sv Bag

theorem putI_false {s : S6} {k : K} {l : List F} (h : (putI s k l).2 = false) : (putI s k l).1 = s := by
 unfold putI at h ⊢
 split at h
 ·
  split at h
  ·
   cases h
  ·
   split at h
   ·
    rename_i h1 _ h2 h3
    rw [if_pos h1, if_pos h3]
   ·
    cases h
 ·
  rename_i h1
  rw [if_neg h1]
theorem addI_false {s : S6} {k : K} {l : List F} (h : (addI s k l).2 = false) : (addI s k l).1 = s := by
 unfold addI at h ⊢
 split at h
 ·
  rename_i h1
  rw [if_pos h1]
 ·
  rename_i h1
  rw [if_neg h1]
  exact putI_false h
theorem auto_parts (s : S6) (l : List F) : (1000000 ≤ s.auto → autoS s l = s ∧ autoR s l = zK ∧ autoB s l = false) ∧
  (¬ 1000000 ≤ s.auto → (addI s (autoK s) l).2 = false → autoS s l = s ∧ autoR s l = zK ∧ autoB s l = false) ∧
  (¬ 1000000 ≤ s.auto → (addI s (autoK s) l).2 = true → autoS s l = (addI s (autoK s) l).1 ∧ autoR s l = autoK s ∧ autoB s l = true) := by
 refine ⟨fun h => ?_, fun h h2 => ?_, fun h h2 => ?_⟩ <;> unfold autoS autoR autoB <;> simp [h, *]

set_option maxHeartbeats 8000000 in
theorem specAutoItem_any (y : LS) (ra : Option Addr) (rc : Nat) (rl : List F) (hf : FitS y.con) (hau : -9223372036854775808 ≤ y.auto) (hrl : rl.length ≤ 1048576) (hrs : Small rl) (w : World) (hr : RowsRd w w.heap.size y.rows) (hrr : Reads w w.heap.size ra (cellsF rl)) :
  Calls Try.prog 25 #[y.v, .agg #[.slice ra rl.length rc]] w (GaveSKB w (autoS y.con rl) (autoR y.con rl) (autoB y.con rl)) := by
 have HCP := Lib.hid (fun w' (h : Below w.heap.size w w') => l6Copy_any y hf w' ((hr.below h).more h.size))
 have HAD := Lib.hid (fun w' (h : Below w.heap.size w w') => specAddItem_any y ⟨1, y.auto + 1, ⟨#[]⟩⟩ ra rc rl hf (by show (0 : Nat) ≤ _; omega) hrl hrs w' ((hr.below h).more h.size) ((hrr.below h).more h.size))
 obtain ⟨name, a, c, xs, auto⟩ := y
 have HR := Lib.hid (fun w' (h : Below w.heap.size w w') => LS.outer (hr.below h))
 have HX := Lib.hid (fun w' (h : Below w.heap.size w w') => (LS.inner (hr.below h)).more h.size)
 have HF := Lib.hid hf.items
 have HNM := Lib.hid hf.name
 have hl := hf.len
 simp only [LS.con, conI_length] at hl
 dsimp only [LS.con] at HR HX HF HNM
 try unfold LS.v LS.cells LS.con
 try dsimp only
 obtain ⟨N, hN⟩ : ∃ n, n = xs.length := ⟨_, rfl⟩
 rw [← hN] at hl ⊢
 have hl' : (N : Int) ≤ 1048576 := by omega
 have HN := Lib.hid hN
 clear hN hr hf
 dsimp only [LS.v, LS.cells, LS.con, L4.K.v] at HCP HAD hau ⊢
 rw [← HN.out] at HCP HAD
 obtain ⟨M, hM⟩ : ∃ M, M = rl.length := ⟨_, rfl⟩
 rw [← hM] at HAD ⊢
 clear hM hrr hrl
 have HP := Lib.hid (auto_parts ⟨name, conI xs, auto⟩ rl)
 dsimp only [autoK] at HP
 obtain ⟨ad, had⟩ : ∃ r, addI ⟨name, conI xs, auto⟩ ⟨1, auto + 1, ⟨#[]⟩⟩ rl = r := ⟨_, rfl⟩
 rw [had] at HAD HP
 have HF2 := Lib.hid (show ad.2 = false → ad.1 = ⟨name, conI xs, auto⟩ from by rw [← had]; exact addI_false)
 clear had
 obtain ⟨rs, has⟩ : ∃ r, autoS ⟨name, conI xs, auto⟩ rl = r := ⟨_, rfl⟩
 obtain ⟨rk, hak⟩ : ∃ r, autoR ⟨name, conI xs, auto⟩ rl = r := ⟨_, rfl⟩
 obtain ⟨rb, hab⟩ : ∃ r, autoB ⟨name, conI xs, auto⟩ rl = r := ⟨_, rfl⟩
 rw [has, hak, hab] at HP ⊢
 clear has hak hab
 have S1 := Lib.hid (show Sl.Sep w _ [_, _, _, _] from L4.push_box (L4.push_box (L4.push_box (L4.push_box (Sl.Sep.start w) 26 #[.string name, .slice a N c, .int .i64 auto] (w.heap.size) (by simp)) 31 #[.slice ra M rc] (w.heap.size + 1) (by simp)) 26 #[.string ⟨#[]⟩, .slice none 0 0, .int .i64 0] (w.heap.size + 1 + 1) (by simp)) 28 #[.int .i64 0, .int .i64 0, .string ⟨#[]⟩] (w.heap.size + 1 + 1 + 1) (by simp))
 obtain ⟨wa, hwa⟩ : ∃ u, u = ((((w.alloc (.cells #[.string name, .slice a N c, .int .i64 auto] 26)).alloc (.cells #[.slice ra M rc] 31)).alloc (.cells #[.string ⟨#[]⟩, .slice none 0 0, .int .i64 0] 26)).alloc (.cells #[.int .i64 0, .int .i64 0, .string ⟨#[]⟩] 28)) := ⟨_, rfl⟩
 rw [← hwa] at S1
 go_enter Try.func25, Try.ntmps25
 go_upto_region 1 with fail
 rw [← hwa]
 clear hwa
 obtain ⟨f0, f1, f2⟩ := Bag.cs3 S1.out 0 rfl
 have f3 := Bag.cs1 S1.out 1 rfl
 obtain ⟨f4, f5, f6⟩ := Bag.cs3 S1.out 2 rfl
 obtain ⟨f7, f8, f9⟩ := Bag.cs3 S1.out 3 rfl
 by_cases h0 : 1000000 ≤ auto
 ·
  have HE := Lib.hid (HP.out.1 h0)
  go_wp2_with fail
  go_at_call 87
  refine (HCP.out _ S1.out.old).mono ?_
  rintro e w1 ⟨⟨nm3, a3, c3, ys, au3⟩, rfl, hcon, ho, hb⟩
  clear f0 f1 f2 f3 f4 f5 f6 f7 f8 f9
  have S2 := Lib.hid (show Sl.Sep w _ [_, _, _, _, Bag.bag ((LS.mk nm3 a3 c3 ys au3).rows)] from Bag.push_bag S1.out hb ho)
  clear S1
  clear hb ho
  have HCON := Lib.hid hcon
  clear hcon
  simp only [LS.v, LS.cells]
  obtain ⟨f0, f1, f2⟩ := Bag.cs3 S2.out 2 rfl
  obtain ⟨f3, f4, f5⟩ := Bag.cs3 S2.out 3 rfl
  obtain ⟨z0, z1, z2⟩ := Bag.fs3 S2.out 2 rfl
  have y0 := Bag.free_at S2.out 3 rfl 0
  have y1 := Bag.free_at S2.out 3 rfl 1
  have y2 := Bag.free_at S2.out 3 rfl 2
  go_wp2_with fail
  clear f0 f1 f2 f3 f4 f5 z0 z1 z2 y0 y1 y2
  have S3 := Lib.hid (show Sl.Sep w _ [_, _, L4.boxR (w.heap.size + 1 + 1) 26 #[.string nm3, .slice a3 ys.length c3, .int .i64 au3], _, _] from L5.put_box5 (L5.put_box5 (L5.put_box5 (S2.out) 2 rfl 0 (.string nm3)) 2 rfl 1 (.slice a3 ys.length c3)) 2 rfl 2 (.int .i64 au3))
  clear S2
  have S4 := Lib.hid (show Sl.Sep w _ [_, _, _, _, _] from L5.put_box5 (L5.put_box5 (L5.put_box5 (S3.out) 3 rfl 0 (.int .i64 0)) 3 rfl 1 (.int .i64 0)) 3 rfl 2 (.string ⟨#[]⟩))
  clear S3
  obtain ⟨f0, f1, f2⟩ := Bag.cs3 S4.out 2 rfl
  obtain ⟨f3, f4, f5⟩ := Bag.cs3 S4.out 3 rfl
  refine bodyPost_ret (v := .tuple #[.agg #[.string nm3, .slice a3 ys.length c3, .int .i64 au3], .agg #[.int .i64 0, .int .i64 0, .string ⟨#[]⟩], .bool false]) (by simp [results, Try.results25, go_sem, *]) rfl ?_
  exact ⟨⟨nm3, a3, c3, ys, au3⟩, by rw [HE.out.2.1, HE.out.2.2]; rfl, by rw [HE.out.1]; exact HCON.out, Bag.bag_from S4.out 4 rfl, S4.out.old⟩
 ·
  have hlt : auto < 1000000 := by omega
  have hw1 : IntKind.i64.wrap (auto + 1) = auto + 1 := IntWalk.i64_in _ ⟨by omega, by omega⟩
  go_upto_region 4 with fail
  clear f0 f1 f2 f3 f4 f5 f6 f7 f8 f9
  have S2 := Lib.hid (show Sl.Sep w _ [_, _, _, _, _] from L4.push_box S1.out 28 #[.int .i64 1, .int .i64 (auto + 1), .string ⟨#[]⟩] wa.heap.size rfl)
  clear S1
  obtain ⟨g1, hg⟩ : ∃ g', g' = wa.heap.size := ⟨_, rfl⟩
  rw [← hg] at S2 ⊢
  clear hg
  generalize wa.alloc (.cells #[.int .i64 1, .int .i64 (auto + 1), .string ⟨#[]⟩] 28) = w1 at S2 ⊢
  obtain ⟨f0, f1, f2⟩ := Bag.cs3 S2.out 0 rfl
  have f3 := Bag.cs1 S2.out 1 rfl
  obtain ⟨f4, f5, f6⟩ := Bag.cs3 S2.out 2 rfl
  obtain ⟨f7, f8, f9⟩ := Bag.cs3 S2.out 3 rfl
  obtain ⟨f10, f11, f12⟩ := Bag.cs3 S2.out 4 rfl
  go_wp2_with fail
  go_at_call 45
  refine (HAD.out _ S2.out.old).mono ?_
  rintro e w2 ⟨⟨nm3, a3, c3, ys, au3⟩, rfl, hcon, ho, hb⟩
  clear f0 f1 f2 f3 f4 f5 f6 f7 f8 f9 f10 f11 f12
  have S3 := Lib.hid (show Sl.Sep w _ [_, _, _, _, L4.boxR g1 28 #[.int .i64 1, .int .i64 (auto + 1), .string ⟨#[]⟩], Bag.bag ((LS.mk nm3 a3 c3 ys au3).rows)] from Bag.push_bag S2.out hb ho)
  clear S2
  clear hb ho
  have HC3 := Lib.hid hcon
  clear hcon
  simp only [LS.v, LS.cells]
  obtain ⟨pb, hpb⟩ : ∃ b, ad.2 = b := ⟨_, rfl⟩
  rw [hpb]
  have HPB := Lib.hid hpb
  clear hpb
  go_upto_region 5 with fail
  have S4 := Lib.hid (show Sl.Sep w _ [_, _, _, _, _, _, _] from L4.push_box S3.out 26 #[.string nm3, .slice a3 ys.length c3, .int .i64 au3] w2.heap.size rfl)
  clear S3
  obtain ⟨g2, hg⟩ : ∃ g', g' = w2.heap.size := ⟨_, rfl⟩
  rw [← hg] at S4 ⊢
  clear hg
  generalize w2.alloc (.cells #[.string nm3, .slice a3 ys.length c3, .int .i64 au3] 26) = w3 at S4 ⊢
  obtain ⟨f0, f1, f2⟩ := Bag.cs3 S4.out 0 rfl
  have f3 := Bag.cs1 S4.out 1 rfl
  obtain ⟨f4, f5, f6⟩ := Bag.cs3 S4.out 2 rfl
  obtain ⟨f7, f8, f9⟩ := Bag.cs3 S4.out 3 rfl
  obtain ⟨f10, f11, f12⟩ := Bag.cs3 S4.out 4 rfl
  obtain ⟨f13, f14, f15⟩ := Bag.cs3 S4.out 6 rfl
  cases pb with
  | false =>
   have HE := Lib.hid (HP.out.2.1 h0 HPB.out)
   clear HC3
   go_wp2_with fail
   go_at_call 87
   refine (HCP.out _ S4.out.old).mono ?_
   rintro e w4 ⟨⟨nm4, a4, c4, ys4, au4⟩, rfl, hcon, ho, hb⟩
   clear f0 f1 f2 f3 f4 f5 f6 f7 f8 f9 f10 f11 f12 f13 f14 f15
   have S5 := Lib.hid (show Sl.Sep w _ [_, _, _, _, _, _, L4.boxR g2 26 #[.string nm3, .slice a3 ys.length c3, .int .i64 au3], Bag.bag ((LS.mk nm4 a4 c4 ys4 au4).rows)] from Bag.push_bag S4.out hb ho)
   clear S4
   clear hb ho
   have HCON := Lib.hid hcon
   clear hcon
   simp only [LS.v, LS.cells]
   obtain ⟨f0, f1, f2⟩ := Bag.cs3 S5.out 2 rfl
   obtain ⟨f3, f4, f5⟩ := Bag.cs3 S5.out 3 rfl
   obtain ⟨z0, z1, z2⟩ := Bag.fs3 S5.out 2 rfl
   have y0 := Bag.free_at S5.out 3 rfl 0
   have y1 := Bag.free_at S5.out 3 rfl 1
   have y2 := Bag.free_at S5.out 3 rfl 2
   go_wp2_with fail
   clear f0 f1 f2 f3 f4 f5 z0 z1 z2 y0 y1 y2
   have S6 := Lib.hid (show Sl.Sep w _ [_, _, L4.boxR (w.heap.size + 1 + 1) 26 #[.string nm4, .slice a4 ys4.length c4, .int .i64 au4], _, _, _, _, _] from L5.put_box5 (L5.put_box5 (L5.put_box5 (S5.out) 2 rfl 0 (.string nm4)) 2 rfl 1 (.slice a4 ys4.length c4)) 2 rfl 2 (.int .i64 au4))
   clear S5
   have S7 := Lib.hid (show Sl.Sep w _ [_, _, _, _, _, _, _, _] from L5.put_box5 (L5.put_box5 (L5.put_box5 (S6.out) 3 rfl 0 (.int .i64 0)) 3 rfl 1 (.int .i64 0)) 3 rfl 2 (.string ⟨#[]⟩))
   clear S6
   obtain ⟨f0, f1, f2⟩ := Bag.cs3 S7.out 2 rfl
   obtain ⟨f3, f4, f5⟩ := Bag.cs3 S7.out 3 rfl
   refine bodyPost_ret (v := .tuple #[.agg #[.string nm4, .slice a4 ys4.length c4, .int .i64 au4], .agg #[.int .i64 0, .int .i64 0, .string ⟨#[]⟩], .bool false]) (by simp [results, Try.results25, go_sem, *]) rfl ?_
   exact ⟨⟨nm4, a4, c4, ys4, au4⟩, by rw [HE.out.2.1, HE.out.2.2]; rfl, by rw [HE.out.1]; exact HCON.out, Bag.bag_from S7.out 7 rfl, S7.out.old⟩
  | true =>
   have HE := Lib.hid (HP.out.2.2 h0 HPB.out)
   have HCON := HC3
   go_upto_region 7 with fail
   clear f0 f1 f2 f3 f4 f5 f6 f7 f8 f9 f10 f11 f12 f13 f14 f15
   refine wp_region_held_drew (S := (fun w' => (w'.cell? ⟨g1, 0, none⟩ = some (.int .i64 1) ∧ w'.cell? ⟨g1, 1, none⟩ = some (.int .i64 (auto + 1)) ∧ w'.cell? ⟨g1, 2, none⟩ = some (.string ⟨#[]⟩)) ∧ (w'.cell? ⟨g2, 0, none⟩ = some (.string nm3) ∧ w'.cell? ⟨g2, 1, none⟩ = some (.slice a3 ys.length c3) ∧ w'.cell? ⟨g2, 2, none⟩ = some (.int .i64 au3)))) (by kernel_rfl) ⟨Bag.cs3 (Bag.drew1 S4.out) 4 rfl, Bag.cs3 (Bag.drew1 S4.out) 6 rfl⟩ (fun hS => ?_)
   have S5 := Lib.hid (Bag.drew1 S4.out)
   clear S4
   generalize World.drew _ = w4 at hS S5 ⊢
   refine tk 0 rfl ?_
   try simp only [zp0, zp1, zp2, zp3, zp4]
   refine tk 1 rfl ?_
   try simp only [zp0, zp1, zp2, zp3, zp4]
   refine Reg.one_op (i := 2) rfl (by kernel_rfl) (fun K hK => ?_)
   obtain ⟨f0, f1, f2⟩ := Bag.cs3 S5.out 2 rfl
   obtain ⟨z0, z1, z2⟩ := Bag.fs3 S5.out 2 rfl
   go_simp
   clear f0 f1 f2 z0 z1 z2
   have S6 := Lib.hid (show Sl.Sep w _ [_, _, L4.boxR (w.heap.size + 1 + 1) 26 #[.string nm3, .slice a3 ys.length c3, .int .i64 au3], _, _, _, _] from L5.put_box5 (L5.put_box5 (L5.put_box5 (S5.out) 2 rfl 0 (.string nm3)) 2 rfl 1 (.slice a3 ys.length c3)) 2 rfl 2 (.int .i64 au3))
   clear S5
   refine hK.out _ _ ⟨Bag.cs3 S6.out 4 rfl, Bag.cs3 S6.out 6 rfl⟩ (fun hS => ?_)
   clear hK K
   try simp only [zp0, zp1, zp2, zp3, zp4]
   refine Reg.one_op (i := 3) rfl (by kernel_rfl) (fun K hK => ?_)
   obtain ⟨f0, f1, f2⟩ := Bag.cs3 S6.out 3 rfl
   obtain ⟨z0, z1, z2⟩ := Bag.fs3 S6.out 3 rfl
   go_simp
   clear f0 f1 f2 z0 z1 z2
   have S7 := Lib.hid (show Sl.Sep w _ [_, _, _, L4.boxR (w.heap.size + 1 + 1 + 1) 28 #[.int .i64 1, .int .i64 (auto + 1), .string ⟨#[]⟩], _, _, _] from L5.put_box5 (L5.put_box5 (L5.put_box5 (S6.out) 3 rfl 0 (.int .i64 1)) 3 rfl 1 (.int .i64 (auto + 1))) 3 rfl 2 (.string ⟨#[]⟩))
   clear S6
   refine hK.out _ _ ⟨Bag.cs3 S7.out 4 rfl, Bag.cs3 S7.out 6 rfl⟩ (fun hS => ?_)
   clear hK K
   try simp only [zp0, zp1, zp2, zp3, zp4]
   refine tk 4 rfl ?_
   try simp only [zp0, zp1, zp2, zp3, zp4]
   refine wpAnyH_done (by kernel_rfl) ?_ _
   obtain ⟨f0, f1, f2⟩ := Bag.cs3 S7.out 0 rfl
   have f3 := Bag.cs1 S7.out 1 rfl
   obtain ⟨f4, f5, f6⟩ := Bag.cs3 S7.out 2 rfl
   obtain ⟨f7, f8, f9⟩ := Bag.cs3 S7.out 3 rfl
   obtain ⟨f10, f11, f12⟩ := Bag.cs3 S7.out 4 rfl
   obtain ⟨f13, f14, f15⟩ := Bag.cs3 S7.out 6 rfl
   go_wp2_with fail
   refine bodyPost_ret (v := .tuple #[.agg #[.string nm3, .slice a3 ys.length c3, .int .i64 au3], .agg #[.int .i64 1, .int .i64 (auto + 1), .string ⟨#[]⟩], .bool true]) (by simp [results, Try.results25, go_sem, *]) rfl ?_
   exact ⟨⟨nm3, a3, c3, ys, au3⟩, by rw [HE.out.2.1, HE.out.2.2]; rfl, by rw [HE.out.1]; exact HCON.out, Bag.bag_from S7.out 5 rfl, S7.out.old⟩
end Go.Proofs.Ytojcdmgcbgpdmaa.L6

namespace Go.Proofs.Ytojcdmgcbgpdmaa.L5
open L4 (boxR push_box box_at)
open Go.ChangeShapes Go.WideShapes Go.ChangeAt Go.RowKit Mem Sl Ex L2 Sv Bag Run

set_option maxHeartbeats 1000000 in
theorem copyRecord_any (a : Option Addr) (c : Nat) (l : List F) (hl : l.length ≤ 1099511627776) (w : World) (hr : Reads w w.heap.size a (cellsF l)) :
  Calls Try.prog 81 #[.agg #[.slice a l.length c]] w fun e w' => ∃ a' c', e = .returned (.agg #[.slice a' l.length c']) ∧ OwnV w' w.heap.size 128 2 a' c' l.length (cellsF l) ∧ Below w.heap.size w w' := by
 obtain ⟨i0, hi, hz0, hz1, hz2⟩ := fieldInfo
 obtain ⟨n, hn⟩ : ∃ n, n = l.length := ⟨_, rfl⟩
 rw [← hn] at hl ⊢
 have HR := Lib.hid (fun w' (h : Below w.heap.size w w') => hr.below h)
 have HC := Lib.hid (show (cellsF l).length = Nat.min n n * 2 by rw [cellsF_length, hn, show Nat.min l.length l.length = l.length from Nat.min_self _])
 have HM := Lib.hid (show (madeCells (Value.agg #[.string ⟨#[]⟩, .int .i64 0]).cells (n * 2)).toList.length = (cellsF l).length by rw [cellsF_length, ← hn]; simp [madeCells])
 have HI := Lib.hid (And.intro hi (And.intro hz0 (And.intro hz1 hz2)))
 have hl' : (n : Int) ≤ 1099511627776 := by omega
 clear hn hr hi hz0 hz1 hz2
 have S1 := Lib.hid (show Sl.Sep w _ [_, _] from L4.push_box (L4.push_box (Sl.Sep.start w) 31 #[.slice a n c] (w.heap.size) (by simp)) 31 #[.slice none 0 0] (w.heap.size + 1) (by simp))
 obtain ⟨wa, hwa⟩ : ∃ u, u = ((w.alloc (.cells #[.slice a n c] 31)).alloc (.cells #[.slice none 0 0] 31)) := ⟨_, rfl⟩
 rw [← hwa] at S1
 go_enter Try.func81, Try.ntmps81
 go_upto_region 1 with fail
 rw [← hwa]
 clear hwa
 have f0 : World.cell? _ ⟨w.heap.size, 0, none⟩ = some (.slice a n c) := Bag.cell_at S1.out 0 rfl 0 rfl
 have f1 : World.cell? _ ⟨w.heap.size + 1, 0, none⟩ = some (.slice none 0 0) := Bag.cell_at S1.out 1 rfl 0 rfl
 go_upto_region 2 with (at_make; refine wpList_make_s S1.out rfl _ _ 29 rfl 128 i0 (.agg #[.string ⟨#[]⟩, .int .i64 0]) 2 Try.underlying29 HI.out.1 HI.out.2.1 HI.out.2.2.1 _ _ n rfl rfl (by rw [HI.out.2.2.2]; omega) (by unfold maxLen; omega) ?_; intro w1 S')
 clear f0 f1
 obtain ⟨g1, hg⟩ : ∃ g', g' = wa.heap.size := ⟨_, rfl⟩
 rw [← hg] at S' ⊢
 clear hg
 have S2 := Lib.hid (show Sl.Sep w _ [L4.boxR w.heap.size 31 #[.slice a n c], L4.boxR (w.heap.size + 1) 31 #[.slice none 0 0], Sv.ownV 128 2 (some ⟨g1, 0, none⟩) n n ((madeCells (Value.agg #[.string ⟨#[]⟩, .int .i64 0]).cells (n * 2)).toList)] from S')
 clear S1
 clear S'
 have f0 : World.cell? _ ⟨w.heap.size, 0, none⟩ = some (.slice a n c) := Bag.cell_at S2.out 0 rfl 0 rfl
 have f1 : World.cell? _ ⟨w.heap.size + 1, 0, none⟩ = some (.slice none 0 0) := Bag.cell_at S2.out 1 rfl 0 rfl
 have hcp := fun ty => run_copy_s (P := Try.prog) S2.out 2 rfl 29 29 ty i0 Try.underlying29 HI.out.1 HI.out.2.2.1 0 n n n c a (cellsF l) HC.out w.heap.size (HR.out _ S2.out.old) (by rw [HM.out]; omega) (cellsF_one l)
 obtain ⟨w2, hw⟩ : ∃ u, u = World.setCells w1 g1 0 (cellsF l) := ⟨_, rfl⟩
 rw [← hw] at hcp
 have HW := Lib.hid hw
 clear hw
 go_upto_region 3 with fail
 clear f0 f1
 have S3 := Lib.hid (show Sl.Sep w _ [_, _, Sv.ownV 128 2 (some ⟨g1, 0, none⟩) n n (cellsF l)] from (by have h := Run.put_run S2.out 2 rfl 0 (cellsF l) (by rw [HM.out]; omega); rw [← HW.out, over_all _ _ HM.out] at h; exact h))
 clear S2
 clear hcp HW
 have f0 : World.cell? _ ⟨w.heap.size, 0, none⟩ = some (.slice a n c) := Bag.cell_at S3.out 0 rfl 0 rfl
 have f1 : World.cell? _ ⟨w.heap.size + 1, 0, none⟩ = some (.slice none 0 0) := Bag.cell_at S3.out 1 rfl 0 rfl
 have z0 := Bag.free_at S3.out 1 rfl 0
 go_wp2_with fail
 clear f0 f1 z0
 have S4 := Lib.hid (show Sl.Sep w _ [_, L4.boxR (w.heap.size + 1) 31 #[.slice (some ⟨g1, 0, none⟩) n n], _] from L5.put_box5 (S3.out) 1 rfl 0 (.slice (some ⟨g1, 0, none⟩) n n))
 clear S3
 have f0 : World.cell? _ ⟨w.heap.size + 1, 0, none⟩ = some (.slice (some ⟨g1, 0, none⟩) n n) := Bag.cell_at S4.out 1 rfl 0 rfl
 refine bodyPost_ret (v := .agg #[.slice (some ⟨g1, 0, none⟩) n n]) (by simp [results, Try.results81, go_sem, *]) rfl ?_
 exact ⟨_, _, rfl, Sv.own_from S4.out 2 rfl, S4.out.old⟩
end Go.Proofs.Ytojcdmgcbgpdmaa.L5

namespace Go.Proofs.Ytojcdmgcbgpdmaa.V
open Go.ChangeShapes Go.WideShapes Go.ChangeAt Go.RowKit Mem Sl Sv Bag

section
variable {α β : Type}
theorem take_next {xs : List α} {k : Nat} {x : α} (hx : xs[k]? = some x) : xs.take (k + 1) = xs.take k ++ [x] := by
 obtain ⟨hk, rfl⟩ := List.getElem?_eq_some_iff.1 hx
 exact List.take_succ_eq_append_getElem hk
theorem drop_next {xs : List α} {k : Nat} {x : α} (hx : xs[k]? = some x) : xs.drop k = x :: xs.drop (k + 1) := by
 obtain ⟨hk, rfl⟩ := List.getElem?_eq_some_iff.1 hx
 exact List.drop_eq_getElem_cons hk
theorem split_next {xs : List α} {k : Nat} {x : α} (hx : xs[k]? = some x) : xs = xs.take k ++ x :: xs.drop (k + 1) := by
 rw [← drop_next hx, List.take_append_drop]
theorem flat_len {cl : α → List Value} {m : Nat} (hm : ∀ x, (cl x).length = m) : ∀ xs : List α, (xs.flatMap cl).length = xs.length * m
 | [] => by simp
 | x :: xs => by rw [List.flatMap_cons, List.length_append, hm, flat_len hm xs, List.length_cons]; rw [Nat.add_mul, Nat.one_mul, Nat.add_comm]
theorem flat_at {cl : α → List Value} {m : Nat} (hm : ∀ x, (cl x).length = m) {xs : List α} {k : Nat} {x : α} (hx : xs[k]? = some x) {j : Nat} {v : Value} (hj : (cl x)[j]? = some v) : (xs.flatMap cl)[k * m + j]? = some v := by
 have hk : k < xs.length := (List.getElem?_eq_some_iff.1 hx).1
 have h1 : j < (cl x).length := (List.getElem?_eq_some_iff.1 hj).1
 have h2 : ((xs.take k).flatMap cl).length = k * m := by rw [flat_len hm, List.length_take, Nat.min_eq_left (Nat.le_of_lt hk)]
 have h3 : xs.flatMap cl = (xs.take k).flatMap cl ++ (cl x ++ (xs.drop (k + 1)).flatMap cl) := by
  conv => lhs; rw [split_next hx, List.flatMap_append, List.flatMap_cons]
 rw [h3, List.getElem?_append_right (by rw [h2]; omega), h2, Nat.add_sub_cancel_left, List.getElem?_append_left h1]
 exact hj
theorem add_far (ad : Addr) (q j : Nat) : ad.add (q + (j + 1)) = ⟨(ad.add q).block, (ad.add q).off + (j + 1), none⟩ := by
 rw [← Nat.add_assoc, L5.add_next, Addr.mk.injEq]
 unfold Addr.add
 by_cases h : q = 0 <;> by_cases h2 : j = 0 <;> simp [h, h2, Nat.add_assoc]
theorem reads_cell {w : World} {B : Nat} {ad : Addr} {vs : List Value} (h : Reads w B (some ad) vs) {j : Nat} {v : Value} (hj : vs[j]? = some v) : w.cell? (ad.add j) = some v := by
 obtain ⟨h1, rfl⟩ := List.getElem?_eq_some_iff.1 hj
 obtain ⟨a', e, _, hc⟩ := h j h1
 injection e with e
 rw [e]
 exact hc
theorem reads_some {w : World} {B : Nat} {a : Option Addr} {vs : List Value} (h : Reads w B a vs) (hl : 0 < vs.length) : ∃ ad, a = some ad := by
 obtain ⟨ad, e, _⟩ := h 0 hl
 exact ⟨ad, e⟩
theorem el_some {cl : α → List Value} {m : Nat} (hm : ∀ x, (cl x).length = m) (hp : 0 < m) {w : World} {B k : Nat} {a : Option Addr} {xs : List α} (h : Reads w B a (xs.flatMap cl)) (hk : k < xs.length) : ∃ ad, a = some ad := by
 refine reads_some h ?_
 rw [flat_len hm]
 exact Nat.mul_pos (by omega) hp
theorem el_first {cl : α → List Value} {m : Nat} (hm : ∀ x, (cl x).length = m) {w : World} {B k : Nat} {ad : Addr} {xs : List α} {x : α} {v : Value} (h : Reads w B (some ad) (xs.flatMap cl)) (hx : xs[k]? = some x) (hv : (cl x)[0]? = some v) : w.cell? (ad.add (k * m)) = some v := reads_cell h (flat_at hm hx hv)
theorem el_next {cl : α → List Value} {m : Nat} (hm : ∀ x, (cl x).length = m) {w : World} {B k : Nat} {ad : Addr} {xs : List α} {x : α} {v : Value} (h : Reads w B (some ad) (xs.flatMap cl)) (hx : xs[k]? = some x) (j : Nat) (hv : (cl x)[j + 1]? = some v) : w.cell? ⟨(ad.add (k * m)).block, (ad.add (k * m)).off + (j + 1), none⟩ = some v := by
 rw [← add_far]
 exact reads_cell h (flat_at hm hx hv)
theorem el4 {cl : α → List Value} (hm : ∀ x, (cl x).length = 4) {w : World} {B k : Nat} {ad : Addr} {xs : List α} {x : α} {v0 v1 v2 v3 : Value} (h : Reads w B (some ad) (xs.flatMap cl)) (hx : xs[k]? = some x) (hc : cl x = [v0, v1, v2, v3]) : w.cell? (ad.add (k * 4)) = some v0 ∧ w.cell? ⟨(ad.add (k * 4)).block, (ad.add (k * 4)).off + 1, none⟩ = some v1 ∧ w.cell? ⟨(ad.add (k * 4)).block, (ad.add (k * 4)).off + 2, none⟩ = some v2 ∧ w.cell? ⟨(ad.add (k * 4)).block, (ad.add (k * 4)).off + 3, none⟩ = some v3 := ⟨el_first hm h hx (by rw [hc]; rfl), el_next hm h hx 0 (by rw [hc]; rfl), el_next hm h hx 1 (by rw [hc]; rfl), el_next hm h hx 2 (by rw [hc]; rfl)⟩
theorem rd_head {w : World} {B : Nat} {r : RowS} {ys : List RowS} (h : RowsRd w B (r :: ys)) : r.Rd w B := h r (List.mem_cons_self ..)
theorem rd_el {w : World} {B : Nat} {rw_ : α → List RowS} {xs : List α} (h : RowsRd w B (xs.flatMap rw_)) {k : Nat} {x : α} (hx : xs[k]? = some x) : RowsRd w B (rw_ x) := h.sub fun r hr => List.mem_flatMap.2 ⟨x, List.mem_of_getElem? hx, hr⟩
end

theorem list_of {α : Type} {P : Nat → α → Prop} : ∀ (n : Nat), (∀ i, i < n → ∃ f, P i f) → ∃ l : List α, l.length = n ∧ ∀ i (hi : i < l.length), P i l[i]
 | 0, _ => ⟨[], rfl, fun i hi => absurd hi (by simp)⟩
 | n + 1, h => by
  obtain ⟨l, hl, hp⟩ := list_of n (fun i hi => h i (by omega))
  obtain ⟨f, hf⟩ := h n (by omega)
  refine ⟨l ++ [f], by simp [hl], fun i hi => ?_⟩
  by_cases hlt : i < l.length
  ·
   rw [List.getElem_append_left hlt]; exact hp i hlt
  ·
   have e : i = n := by simp at hi; omega
   subst e
   rw [List.getElem_append_right (by omega)]
   simpa using hf
section
variable {H : Type} {enc : TypeId × Value → H} {W : World} {b : Nat} {sp : Nat → Bool} {hd : Bool} {α : Type}
end
end Go.Proofs.Ytojcdmgcbgpdmaa.V

namespace Go.Proofs.Ytojcdmgcbgpdmaa.V
open Go.ChangeShapes Go.WideShapes Go.ChangeAt Go.RowKit Mem Sl Sv Bag
open L5 (markT)
def cl_Field (z : L5.F) : List Value := [.string z.name, .int .i64 z.n]
def row_Field (a : Option Addr) (c : Nat) (xs : List L5.F) : RowS := ⟨128, 2, a, c, xs.length, xs.flatMap cl_Field⟩
def rws_Field (_ : List L5.F) : List RowS := []
def rs_Field (a : Option Addr) (c : Nat) (xs : List L5.F) : List RowS := row_Field a c xs :: rws_Field xs
section
variable {H : Type} {enc : TypeId × Value → H} {W : World} {b : Nat} {sp : Nat → Bool} {hd : Bool}
end
end Go.Proofs.Ytojcdmgcbgpdmaa.V

namespace Go.Proofs.Ytojcdmgcbgpdmaa.V
open Go.ChangeShapes Go.WideShapes Go.ChangeAt Go.RowKit Mem Sl Sv Bag
open L5 (markT)
structure LRecord where
 a : Option Addr
 c : Nat
 l : List L5.F
def rw_Record (z : LRecord) : List RowS := rs_Field z.a z.c z.l
section
variable {H : Type} {enc : TypeId × Value → H} {W : World} {b : Nat} {sp : Nat → Bool} {hd : Bool}
end
end Go.Proofs.Ytojcdmgcbgpdmaa.V

namespace Go.Proofs.Ytojcdmgcbgpdmaa.V
open Go.ChangeShapes Go.WideShapes Go.ChangeAt Go.RowKit Mem Sl Sv Bag
open L5 (markT)
def co_Item : L6.LI → L6.It := L6.LI.con
def coS_Item : List L6.LI → List L6.It := L6.conI
theorem coS_Item_eq (xs : List L6.LI) : coS_Item xs = xs.map co_Item := rfl
def cl_Item (z : L6.LI) : List Value := [.int .i64 z.k.kind, .int .i64 z.k.n, .string z.k.text, .slice z.a z.l.length z.c]
def vv_Item (z : L6.LI) : Value := .agg #[.int .i64 z.k.kind, .int .i64 z.k.n, .string z.k.text, .slice z.a z.l.length z.c]
def rw_Item (z : L6.LI) : List RowS := rw_Record (⟨z.a, z.c, z.l⟩ : LRecord)
theorem cl_Item_len (z : L6.LI) : (cl_Item z).length = 4 := rfl
def row_Item (a : Option Addr) (c : Nat) (xs : List L6.LI) : RowS := ⟨40, 4, a, c, xs.length, xs.flatMap cl_Item⟩
def rws_Item : List L6.LI → List RowS := L6.rowsI
theorem rws_Item_eq (xs : List L6.LI) : rws_Item xs = xs.flatMap rw_Item := by
 show xs.map L6.LI.row = _
 induction xs with
 | nil => rfl
 | cons x xs ih => rw [List.map_cons, ih]; rfl
def rs_Item (a : Option Addr) (c : Nat) (xs : List L6.LI) : List RowS := row_Item a c xs :: rws_Item xs
theorem rws_Item_app (xs ys : List L6.LI) : rws_Item (xs ++ ys) = rws_Item xs ++ rws_Item ys := by rw [rws_Item_eq, rws_Item_eq, rws_Item_eq, List.flatMap_append]
section
variable {H : Type} {enc : TypeId × Value → H} {W : World} {b : Nat} {sp : Nat → Bool} {hd : Bool}
end
end Go.Proofs.Ytojcdmgcbgpdmaa.V

namespace Go.Proofs.Ytojcdmgcbgpdmaa.V
open Go.ChangeShapes Go.WideShapes Go.ChangeAt Go.RowKit Mem Sl Sv Bag

theorem infoE_Item : ∃ i, Try.prog.info? 40 = some i ∧ i.zero = some (.agg #[.int .i64 0, .int .i64 0, .string ⟨#[]⟩, .slice none 0 0]) ∧ i.size = 4 ∧ i.bytes = 56 := Ex.infoOf _ _ _ _ (by kernel_rfl)
def Copied_Item (w : World) (x : L6.LI) (e : Ending) (w' : World) : Prop := ∃ y : L6.LI, e = .returned (vv_Item y) ∧ co_Item y = co_Item x ∧ BagOwn w' w.heap.size (rw_Item y) ∧ Below w.heap.size w w'
def CopiedS_Item (w : World) (xs : List L6.LI) (e : Ending) (w' : World) : Prop := ∃ (g : Nat) (ys : List L6.LI), e = .returned (.slice (some ⟨g, 0, none⟩) ys.length ys.length) ∧ coS_Item ys = coS_Item xs ∧ BagOwn w' w.heap.size (rs_Item (some ⟨g, 0, none⟩) ys.length ys) ∧ Below w.heap.size w w'
set_option maxHeartbeats 4000000 in
theorem copyEach_Item (hco : ∀ (x : L6.LI) (hf : L6.FitI (co_Item x)) (w : World) (hr : RowsRd w w.heap.size (rw_Item x)), Calls Try.prog 165 #[vv_Item x] w (Copied_Item w x))
  (a : Option Addr) (c : Nat) (xs : List L6.LI) (hl : xs.length ≤ 1048576) (hf : ∀ x ∈ xs, L6.FitI (co_Item x)) (w : World) (hr : Reads w w.heap.size a (xs.flatMap cl_Item)) (hx : RowsRd w w.heap.size (rws_Item xs)) :
  Calls Try.prog 164 #[.slice a xs.length c, .func (.func 165) #[] #[]] w (CopiedS_Item w xs) := by
 obtain ⟨i0, hi1, hi2, hi3, hi4⟩ := infoE_Item
 have HI := Lib.hid (And.intro hi1 (And.intro hi2 (And.intro hi3 hi4)))
 clear hi1 hi2 hi3 hi4
 have HR := Lib.hid (fun w' (h : Below w.heap.size w w') => hr.below h)
 have HX := Lib.hid (fun w' (h : Below w.heap.size w w') => (hx.below h).more h.size)
 have HF := Lib.hid hf
 have HCO := Lib.hid hco
 obtain ⟨N, hN⟩ : ∃ n, n = xs.length := ⟨_, rfl⟩
 rw [← hN] at hl ⊢
 have hl' : (N : Int) ≤ 1048576 := by omega
 have HN := Lib.hid hN
 clear hN hr hx hf hco
 obtain ⟨Z, hZ⟩ : ∃ Z, Z = (madeCells (Value.agg #[.int .i64 0, .int .i64 0, .string ⟨#[]⟩, .slice none 0 0]).cells (N * 4)).toList := ⟨_, rfl⟩
 have HZ := Lib.hid (show Z.length = N * 4 by rw [hZ]; simp [madeCells])
 have HZD := Lib.hid hZ
 clear hZ
 have S1 := Lib.hid (show Sl.Sep w w [] from Sl.Sep.start w)
 go_enter Try.func164, Try.ntmps164
 go_upto_region 2 with (at_make; refine Run.wpList_make_s S1.out rfl _ _ 24 rfl 40 i0 (.agg #[.int .i64 0, .int .i64 0, .string ⟨#[]⟩, .slice none 0 0]) 4 Try.underlying24 HI.out.1 HI.out.2.1 HI.out.2.2.1 _ _ N rfl rfl (by rw [HI.out.2.2.2]; omega) (by unfold maxLen; omega) ?_; intro w1 S')
 obtain ⟨g1, hg⟩ : ∃ g', g' = w.heap.size := ⟨_, rfl⟩
 rw [← hg] at S' ⊢
 clear hg
 have S2 := Lib.hid (show Sl.Sep w _ [Sv.ownV 40 4 (some ⟨g1, 0, none⟩) N N (([] : List L6.LI).flatMap cl_Item ++ Z)] from (by have h := S'; rw [← HZD.out] at h; exact h))
 clear S1
 clear S'
 have S3 := Lib.hid (show Sl.Sep w _ [_, Bag.bag (rws_Item [])] from Bag.push_bag S2.out (Below.refl _ _) (by rw [rws_Item_eq]; exact Bag.BagOwn.nil _ _))
 clear S2
 go_wp2_with fail
 go_loopw [13] (fun i wr => ∃ (k : Nat) (ys : List L6.LI) (Zs : List Value), k ≤ N ∧ i = .int .i64 k ∧ Hid ((ys.map co_Item = (xs.take k).map co_Item ∧ ys.length = k ∧ Zs.length = (N - k) * 4) ∧ Sl.Sep w wr [Sv.ownV 40 4 (some ⟨g1, 0, none⟩) N N (ys.flatMap cl_Item ++ Zs), Bag.bag (rws_Item ys)])) (fun i _ => N - (intOf i).toNat)
 case atStart => exact ⟨0, [], Z, Nat.zero_le _, rfl, And.intro ⟨rfl, rfl, HZ.out⟩ S3.out⟩
 case round =>
  obtain ⟨k, ys, Zs, hk, rfl, hrel⟩ := hrel
  have HC := Lib.hid hrel.out.1
  have S4 := Lib.hid hrel.out.2
  clear hrel S3
  by_cases hlt : (k : Int) < (N : Int)
  ·
   skip
   have hkl : k < xs.length := by have := HN.out; omega
   obtain ⟨x, hx⟩ : ∃ x, xs[k]? = some x := ⟨_, List.getElem?_eq_getElem hkl⟩
   obtain ⟨ad, e'⟩ := el_some cl_Item_len (by decide) (HR.out _ S4.out.old) hkl
   subst e'
   have HK := Lib.hid (fun w' (h : Below w.heap.size w w') => el4 cl_Item_len (HR.out _ h) hx rfl)
   have HTX := Lib.hid (take_next hx)
   have HL := Lib.hid (show (ys.flatMap cl_Item).length = k * 4 ∧ k * 4 + 4 ≤ (ys.flatMap cl_Item ++ Zs).length ∧ 4 ≤ Zs.length from by have h1 := HC.out.2.1; have h2 := HC.out.2.2; rw [List.length_append, flat_len cl_Item_len, h1, h2]; omega)
   have HCI := Lib.hid (fun w' (h : Below w.heap.size w w') => HCO.out x (HF.out x (List.mem_of_getElem? hx)) w' (rd_el (rw_ := rw_Item) (by rw [← rws_Item_eq]; exact HX.out w' h) hx))
   dsimp only [vv_Item] at HCI
   clear hx
   obtain ⟨f0, f1, f2, f3⟩ := HK.out _ S4.out.old
   go_upto_region 5 with fail
   clear f0 f1 f2 f3
   have S5 := Lib.hid (show Sl.Sep w _ [_, _, _] from L4.push_box S4.out 40 #[.int .i64 x.k.kind, .int .i64 x.k.n, .string x.k.text, .slice x.a x.l.length x.c] wr.heap.size rfl)
   clear S4
   obtain ⟨g2, hg⟩ : ∃ g', g' = wr.heap.size := ⟨_, rfl⟩
   rw [← hg] at S5 ⊢
   clear hg
   generalize wr.alloc (.cells #[.int .i64 x.k.kind, .int .i64 x.k.n, .string x.k.text, .slice x.a x.l.length x.c] 40) = w2 at S5 ⊢
   obtain ⟨f0, f1, f2, f3⟩ := Bag.cs4 S5.out 2 rfl
   obtain ⟨f4, f5, f6, f7⟩ := HK.out _ S5.out.old
   go_wp2_with fail
   go_at_call 165
   refine (HCI.out _ S5.out.old).mono ?_
   rintro e w3 ⟨y, rfl, hcy, ho, hb⟩
   clear f0 f1 f2 f3 f4 f5 f6 f7
   have S6 := Lib.hid (show Sl.Sep w _ [_, _, L4.boxR g2 40 #[.int .i64 x.k.kind, .int .i64 x.k.n, .string x.k.text, .slice x.a x.l.length x.c], Bag.bag (rw_Item y)] from Bag.push_bag S5.out hb ho)
   clear S5
   clear hb ho
   have HCY := Lib.hid hcy
   clear hcy
   try dsimp only [vv_Item]
   have q0 := (Sv.own_at S6.out 0 rfl).cell (k * 4) (by have := HL.out.2.1; omega)
   have z0 := (Sv.own_at S6.out 0 rfl).free (k * 4)
   have q1 := (Sv.own_at S6.out 0 rfl).cell (k * 4 + 1) (by have := HL.out.2.1; omega)
   have z1 := (Sv.own_at S6.out 0 rfl).free (k * 4 + 1)
   have q2 := (Sv.own_at S6.out 0 rfl).cell (k * 4 + 2) (by have := HL.out.2.1; omega)
   have z2 := (Sv.own_at S6.out 0 rfl).free (k * 4 + 2)
   have q3 := (Sv.own_at S6.out 0 rfl).cell (k * 4 + 3) (by have := HL.out.2.1; omega)
   have z3 := (Sv.own_at S6.out 0 rfl).free (k * 4 + 3)
   go_wp2_with fail
   clear q0 z0 q1 z1 q2 z2 q3 z3
   have S7 := Lib.hid (show Sl.Sep w (World.setCells w3 g1 (k * 4) [.int .i64 y.k.kind, .int .i64 y.k.n, .string y.k.text, .slice y.a y.l.length y.c]) [Sv.ownV 40 4 (some ⟨g1, 0, none⟩) N N ((ys ++ [y]).flatMap cl_Item ++ Zs.drop 4), Bag.bag (rws_Item ys), L4.boxR g2 40 #[.int .i64 x.k.kind, .int .i64 x.k.n, .string x.k.text, .slice x.a x.l.length x.c], Bag.bag (rw_Item y)] from (by have h := Run.put_run S6.out 0 rfl (k * 4) [.int .i64 y.k.kind, .int .i64 y.k.n, .string y.k.text, .slice y.a y.l.length y.c] (by have := HL.out.2.1; simpa using this); rw [Run.over_at _ _ _ _ HL.out.1 (by have := HL.out.2.2; simpa using this)] at h; rw [List.flatMap_append, List.append_assoc]; exact h))
   clear S6
   have S8 := Lib.hid (show Sl.Sep w _ [Sv.ownV 40 4 (some ⟨g1, 0, none⟩) N N ((ys ++ [y]).flatMap cl_Item ++ Zs.drop 4), Bag.bag (rws_Item ys ++ (rw_Item y)), L4.boxR g2 40 #[.int .i64 x.k.kind, .int .i64 x.k.n, .string x.k.text, .slice x.a x.l.length x.c], Bag.bag ([])] from Bag.bag_join S7.out 1 3 (by decide) rfl rfl)
   clear S7
   have S9 := Lib.hid (show Sl.Sep w _ [_, _] from Bag.take S8.out [0, 1] (by rfl) (by decide))
   clear S8
   go_roundw
   case rel =>
    refine ⟨k + 1, ys ++ [y], Zs.drop 4, by omega, by go_num, And.intro ⟨?_, ?_, ?_⟩ ?_⟩
    ·
     rw [HTX.out, List.map_append, List.map_append, HC.out.1]; rw [show [y].map co_Item = [x].map co_Item from congrArg (fun u => [u]) HCY.out]
    ·
     rw [List.length_append, HC.out.2.1]; rfl
    ·
     rw [List.length_drop, HC.out.2.2]; omega
    ·
     rw [rws_Item_app]; rw [show rws_Item [y] = rw_Item y from by rw [rws_Item_eq]; simp]; exact S9.out
   case measure => simp [intOf]; omega
  ·
   skip
   obtain rfl : k = N := by omega
   go_wp2_with fail
   go_ret
   obtain ⟨hc1, hc2, hc3⟩ := HC.out
   have hZs : Zs = [] := List.eq_nil_of_length_eq_zero (by rw [hc3]; omega)
   have hcon : ys.map co_Item = xs.map co_Item := by rw [hc1, List.take_of_length_le (by have := HN.out; omega)]
   have S90 := Lib.hid (Bag.bag_of_one S4.out 0 (r := row_Item (some ⟨g1, 0, none⟩) k ys) (by unfold RowS.res row_Item; dsimp only; rw [hZs, List.append_nil, hc2]; rfl))
   have S91 := Lib.hid (Bag.bag_join S90.out 0 1 (by decide) rfl rfl)
   have hb := Bag.bag_from S91.out 0 rfl
   subst hc2
   exact ⟨_, ys, rfl, by rw [coS_Item_eq, coS_Item_eq]; exact hcon, hb, S91.out.old⟩
end Go.Proofs.Ytojcdmgcbgpdmaa.V

set_option linter.unusedSimpArgs false
namespace Go.Proofs.Ytojcdmgcbgpdmaa.L6
open L4 (K isK cmpK R inR encU)
open L5 (F isR isN cellsF encR eqR Small)
open Go.ChangeShapes Go.WideShapes Go.ChangeAt Go.RowKit Mem Sl Ex L2 Sv Bag

set_option maxHeartbeats 2000000 in
theorem copyItem_any (kd n : Int) (s : ByteArray) (a : Option Addr) (c : Nat) (l : List F) (hl : l.length ≤ 1048576) (w : World) (hr : Reads w w.heap.size a (cellsF l)) :
  Calls Try.prog 165 #[.agg #[.int .i64 kd, .int .i64 n, .string s, .slice a l.length c]] w (GaveI w ⟨⟨kd, n, s⟩, l⟩) := by
 have HC := Lib.hid (fun w' (h : Below w.heap.size w w') => L5.copyRecord_any a c l (by have := hl; omega) w' ((hr.below h).more h.size))
 obtain ⟨N, hN⟩ : ∃ n, n = l.length := ⟨_, rfl⟩
 rw [← hN] at HC ⊢
 have HN := Lib.hid hN
 clear hN hr hl
 have S1 := Lib.hid (show Sl.Sep w _ [_, _] from L4.push_box (L4.push_box (Sl.Sep.start w) 40 #[.int .i64 kd, .int .i64 n, .string s, .slice a N c] (w.heap.size) (by simp)) 40 #[.int .i64 0, .int .i64 0, .string ⟨#[]⟩, .slice none 0 0] (w.heap.size + 1) (by simp))
 obtain ⟨wa, hwa⟩ : ∃ w_, w_ = ((w.alloc (.cells #[.int .i64 kd, .int .i64 n, .string s, .slice a N c] 40)).alloc (.cells #[.int .i64 0, .int .i64 0, .string ⟨#[]⟩, .slice none 0 0] 40)) := ⟨_, rfl⟩
 rw [← hwa] at S1
 go_enter Try.func165, Try.ntmps165
 go_upto_region 1 with fail
 rw [← hwa]
 clear hwa
 go_upto_region 1 with fail
 refine wp_region_held_drew (S := (fun w' => (w'.cell? ⟨w.heap.size, 0, none⟩ = some (.int .i64 kd) ∧ w'.cell? ⟨w.heap.size, 1, none⟩ = some (.int .i64 n) ∧ w'.cell? ⟨w.heap.size, 2, none⟩ = some (.string s) ∧ w'.cell? ⟨w.heap.size, 3, none⟩ = some (.slice a N c)))) (by kernel_rfl) (Bag.cs4 (Bag.drew1 S1.out) 0 rfl) (fun hS => ?_)
 have S2 := Lib.hid (Bag.drew1 S1.out)
 clear S1
 generalize World.drew _ = w1 at hS S2 ⊢
 refine tk 0 rfl ?_
 try simp only [zp0, zp1, zp2, zp3, zp4]
 refine tk 1 rfl ?_
 try simp only [zp0, zp1, zp2, zp3, zp4]
 refine tk 2 rfl ?_
 try simp only [zp0, zp1, zp2, zp3, zp4]
 refine tk 3 rfl ?_
 try simp only [zp0, zp1, zp2, zp3, zp4]
 refine Reg.one_op (i := 4) rfl (by kernel_rfl) (fun K hK => ?_)
 go_simp
 go_at_call 81
 refine (HC.out _ S2.out.old).mono ?_
 rintro e w2 ⟨a1, c1, rfl, ho, hb⟩
 have S3 := Lib.hid (show Sl.Sep w _ [_, _, Sv.ownV 128 2 a1 c1 N (cellsF l)] from Sv.push_own S2.out hb ho)
 clear S2
 clear hb ho
 go_wp2_with fail
 refine hK.out _ _ (Bag.cs4 S3.out 0 rfl) (fun hS => ?_)
 clear hK K
 try simp only [zp0, zp1, zp2, zp3, zp4]
 refine tk 5 rfl ?_
 try simp only [zp0, zp1, zp2, zp3, zp4]
 refine Reg.one_op (i := 6) rfl (by kernel_rfl) (fun K hK => ?_)
 obtain ⟨f0, f1, f2, f3⟩ := Bag.cs4 S3.out 1 rfl
 obtain ⟨z0, z1, z2, z3⟩ := Bag.fs4 S3.out 1 rfl
 go_simp
 clear f0 f1 f2 f3 z0 z1 z2 z3
 have S4 := Lib.hid (show Sl.Sep w _ [_, L4.boxR (w.heap.size + 1) 40 #[.int .i64 kd, .int .i64 n, .string s, .slice a1 N c1], _] from L5.put_box5 (L5.put_box5 (L5.put_box5 (L5.put_box5 (S3.out) 1 rfl 0 (.int .i64 kd)) 1 rfl 1 (.int .i64 n)) 1 rfl 2 (.string s)) 1 rfl 3 (.slice a1 N c1))
 clear S3
 refine hK.out _ _ (Bag.cs4 S4.out 0 rfl) (fun hS => ?_)
 clear hK K
 try simp only [zp0, zp1, zp2, zp3, zp4]
 refine wpAnyH_done (by kernel_rfl) ?_ _
 obtain ⟨f0, f1, f2, f3⟩ := Bag.cs4 S4.out 0 rfl
 obtain ⟨f4, f5, f6, f7⟩ := Bag.cs4 S4.out 1 rfl
 go_wp2_with fail
 refine bodyPost_ret (v := .agg #[.int .i64 kd, .int .i64 n, .string s, .slice a1 N c1]) (by simp [results, Try.results165, go_sem, *]) rfl ?_
 have hb := Bag.bag_from (Bag.bag_of_one S4.out 2 (r := (LI.mk ⟨kd, n, s⟩ a1 c1 l).row) (by show some _ = some _; rw [HN.out]; rfl)) 2 rfl
 exact ⟨a1, c1, by rw [HN.out], hb, S4.out.old⟩
theorem copyItem_V (x : LI) (hf : FitI (V.co_Item x)) (w : World) (hr : RowsRd w w.heap.size (V.rw_Item x)) : Calls Try.prog 165 #[V.vv_Item x] w (V.Copied_Item w x) :=
 (copyItem_any x.k.kind x.k.n x.k.text x.a x.c x.l hf.len w (V.rd_head hr).reads).mono fun e w' ⟨a, c, he, ho, hb⟩ => ⟨⟨x.k, a, c, x.l⟩, he, rfl, ho, hb⟩
def GaveSF (w : World) (s : S6) (e : Ending) (w' : World) : Prop :=
 ∃ (g : Nat) (ys : List LI), e = .returned (.agg #[.string s.name, .slice (some ⟨g, 0, none⟩) ys.length ys.length, .int .i64 s.auto]) ∧ conI ys = s.items ∧ BagOwn w' w.heap.size (rowI (some ⟨g, 0, none⟩) ys.length ys :: rowsI ys) ∧ Below w.heap.size w w'

set_option maxHeartbeats 4000000 in
theorem copyStore_full (y : LS) (hf : FitS y.con) (w : World) (hr : RowsRd w w.heap.size y.rows) :
  Calls Try.prog 80 #[y.v] w (GaveSF w y.con) := by
 have HCE := Lib.hid (fun w' (h : Below w.heap.size w w') => V.copyEach_Item copyItem_V y.a y.c y.xs (by have h := hf.len; simpa [LS.con] using h) (fun x hx => hf.items _ (by unfold LS.con conI; exact List.mem_map.2 ⟨x, hx, rfl⟩)) w' (show Reads _ _ _ (y.xs.flatMap V.cl_Item) from ((LS.outer (hr.below h)).more h.size)) (show RowsRd _ _ (V.rws_Item y.xs) from (LS.inner (hr.below h)).more h.size))
 obtain ⟨name, a, c, xs, auto⟩ := y
 have HR := Lib.hid (fun w' (h : Below w.heap.size w w') => LS.outer (hr.below h))
 have HX := Lib.hid (fun w' (h : Below w.heap.size w w') => (LS.inner (hr.below h)).more h.size)
 have HF := Lib.hid hf.items
 have HNM := Lib.hid hf.name
 have hl := hf.len
 simp only [LS.con, conI_length] at hl
 dsimp only [LS.con] at HR HX HF HNM
 first | unfold LS.v LS.cells LS.con | unfold LS.v LS.cells | skip
 try dsimp only
 obtain ⟨N, hN⟩ : ∃ n, n = xs.length := ⟨_, rfl⟩
 rw [← hN] at hl ⊢
 have hl' : (N : Int) ≤ 1048576 := by omega
 have HN := Lib.hid hN
 clear hN hr hf
 rw [← HN.out] at HCE
 replace HCE := Lib.hid HCE.out
 have S1 := Lib.hid (show Sl.Sep w _ [_, _] from L4.push_box (L4.push_box (Sl.Sep.start w) 26 #[.string name, .slice a N c, .int .i64 auto] (w.heap.size) (by simp)) 26 #[.string ⟨#[]⟩, .slice none 0 0, .int .i64 0] (w.heap.size + 1) (by simp))
 obtain ⟨wa, hwa⟩ : ∃ w_, w_ = ((w.alloc (.cells #[.string name, .slice a N c, .int .i64 auto] 26)).alloc (.cells #[.string ⟨#[]⟩, .slice none 0 0, .int .i64 0] 26)) := ⟨_, rfl⟩
 rw [← hwa] at S1
 go_enter Try.func80, Try.ntmps80
 go_upto_region 1 with fail
 rw [← hwa]
 clear hwa
 go_upto_region 1 with fail
 refine wp_region_held_drew (S := (fun w' => (w'.cell? ⟨w.heap.size, 0, none⟩ = some (.string name) ∧ w'.cell? ⟨w.heap.size, 1, none⟩ = some (.slice a N c) ∧ w'.cell? ⟨w.heap.size, 2, none⟩ = some (.int .i64 auto)))) (by kernel_rfl) (Bag.cs3 (Bag.drew1 S1.out) 0 rfl) (fun hS => ?_)
 have S2 := Lib.hid (Bag.drew1 S1.out)
 clear S1
 generalize World.drew _ = w1 at hS S2 ⊢
 refine tk 0 rfl ?_
 try simp only [zp0, zp1, zp2, zp3, zp4]
 refine tk 1 rfl ?_
 try simp only [zp0, zp1, zp2, zp3, zp4]
 refine tk 2 rfl ?_
 try simp only [zp0, zp1, zp2, zp3, zp4]
 refine tk 3 rfl ?_
 try simp only [zp0, zp1, zp2, zp3, zp4]
 refine tk 5 rfl ?_
 try simp only [zp0, zp1, zp2, zp3, zp4]
 refine tk 6 rfl ?_
 try simp only [zp0, zp1, zp2, zp3, zp4]
 refine Reg.one_op (i := 4) rfl (by kernel_rfl) (fun K hK => ?_)
 go_simp
 go_at_call 164
 refine (HCE.out _ S2.out.old).mono ?_
 rintro e w2 ⟨g1, ys, rfl, hcy, ho, hb⟩
 have S3 := Lib.hid (show Sl.Sep w _ [_, _, Bag.bag (V.rs_Item (some ⟨g1, 0, none⟩) ys.length ys)] from Bag.push_bag S2.out hb ho)
 clear S2
 clear hb ho
 have HCY := Lib.hid hcy
 clear hcy
 go_wp2_with fail
 refine hK.out _ _ (Bag.cs3 S3.out 0 rfl) (fun hS => ?_)
 clear hK K
 try simp only [zp0, zp1, zp2, zp3, zp4]
 refine tk 7 rfl ?_
 try simp only [zp0, zp1, zp2, zp3, zp4]
 refine Reg.one_op (i := 8) rfl (by kernel_rfl) (fun K hK => ?_)
 obtain ⟨f0, f1, f2⟩ := Bag.cs3 S3.out 1 rfl
 obtain ⟨z0, z1, z2⟩ := Bag.fs3 S3.out 1 rfl
 go_simp
 clear f0 f1 f2 z0 z1 z2
 have S4 := Lib.hid (show Sl.Sep w _ [_, L4.boxR (w.heap.size + 1) 26 #[.string name, .slice (some ⟨g1, 0, none⟩) ys.length ys.length, .int .i64 auto], _] from L5.put_box5 (L5.put_box5 (L5.put_box5 (S3.out) 1 rfl 0 (.string name)) 1 rfl 1 (.slice (some ⟨g1, 0, none⟩) ys.length ys.length)) 1 rfl 2 (.int .i64 auto))
 clear S3
 refine hK.out _ _ (Bag.cs3 S4.out 0 rfl) (fun hS => ?_)
 clear hK K
 try simp only [zp0, zp1, zp2, zp3, zp4]
 refine wpAnyH_done (by kernel_rfl) ?_ _
 obtain ⟨f0, f1, f2⟩ := Bag.cs3 S4.out 0 rfl
 obtain ⟨f3, f4, f5⟩ := Bag.cs3 S4.out 1 rfl
 go_wp2_with fail
 refine bodyPost_ret (v := .agg #[.string name, .slice (some ⟨g1, 0, none⟩) ys.length ys.length, .int .i64 auto]) (by simp [results, Try.results80, go_sem, *]) rfl ?_
 exact ⟨g1, ys, rfl, HCY.out, Bag.bag_from S4.out 2 rfl, S4.out.old⟩
theorem copyStore_any (y : LS) (hf : FitS y.con) (w : World) (hr : RowsRd w w.heap.size y.rows) : Calls Try.prog 80 #[y.v] w (GaveS w y.con) := by
 refine (copyStore_full y hf w hr).mono ?_
 rintro e w' ⟨g, ys, rfl, hc, hb, ho⟩
 exact ⟨⟨y.name, some ⟨g, 0, none⟩, ys.length, ys, y.auto⟩, rfl, by unfold LS.con; dsimp only; rw [hc]; rfl, hb, ho⟩
end Go.Proofs.Ytojcdmgcbgpdmaa.L6

namespace Go.Proofs.Ytojcdmgcbgpdmaa.L6
open L4 (K isK cmpK R inR encU)
open L5 (F isR isN cellsF encR eqR Small)
open Go.ChangeShapes Go.WideShapes Go.ChangeAt Go.RowKit Mem Sl Ex L2 Sv Bag

def ixP (f : It → Bool) (xs : List It) : Int := match xs.findIdx? f with
 | some i => i
 | none => -1
theorem ixP_at {f : It → Bool} {xs : List It} (i : Nat) (x : It) (hx : xs[i]? = some x) (h : f x = true) (ha : ∀ j (hj : j < xs.length), j < i → f xs[j] = false) : ixP f xs = i := by
 obtain ⟨hi, rfl⟩ := List.getElem?_eq_some_iff.1 hx
 unfold ixP
 rw [show xs.findIdx? f = some i from by
  rw [List.findIdx?_eq_some_iff_getElem]
  exact ⟨hi, h, fun j hj => by rw [ha j (by omega) hj]; simp⟩]
theorem ixP_none {f : It → Bool} {xs : List It} (ha : ∀ j (hj : j < xs.length), f xs[j] = false) : ixP f xs = -1 := by
 unfold ixP
 rw [show xs.findIdx? f = none from by
  rw [List.findIdx?_eq_none_iff]
  intro x hx
  obtain ⟨j, hj, rfl⟩ := List.getElem_of_mem hx
  exact ha j hj]
theorem fndI_ixP (xs : List It) (k : K) : fndI xs k = ixP (fun x => eqK x.k k) xs := rfl
def Tests (Fn g : Nat) (f : It → Bool) (xs : List LI) (w : World) : Prop :=
 ∀ x ∈ xs, ∀ w', Below w.heap.size w w' → Calls Try.prog Fn #[.agg #[.int .i64 x.k.kind, .int .i64 x.k.n, .string x.k.text, .slice x.a x.l.length x.c], .pointer (some ⟨g, 0, none⟩)] w' fun e w'' => e = .returned (.bool (f x.con)) ∧ Below w'.heap.size w' w''

set_option maxHeartbeats 2000000 in
theorem indexFuncA_any (g : Nat) (f : It → Bool) (a : Option Addr) (c : Nat) (xs : List LI) (hl : xs.length ≤ 1048576) (w : World) (hr : Reads w w.heap.size a (cellsI xs)) (hp : Tests 93 g f xs w) :
  Calls Try.prog 92 #[.slice a xs.length c, .func (.func 93) #[] #[.pointer (some ⟨g, 0, none⟩)]] w fun e w' => e = .returned (.int .i64 (ixP f (conI xs))) ∧ Below w.heap.size w w' := by
 have HR := Lib.hid (fun w' (h : Below w.heap.size w w') => hr.below h)
 have HP := Lib.hid hp
 obtain ⟨N, hN⟩ : ∃ n, n = xs.length := ⟨_, rfl⟩
 rw [← hN] at hl ⊢
 have hl' : (N : Int) ≤ 1048576 := by omega
 have HN := Lib.hid hN
 clear hN hr hp
 have S1 := Lib.hid (show Sl.Sep w w [] from Sl.Sep.start w)
 go_enter Try.func92, Try.ntmps92
 go_wp2_with fail
 go_loopw [8] (fun i wr => ∃ k : Nat, k ≤ N ∧ i = .int .i64 k ∧ Hid ((∀ j (hj : j < (conI xs).length), j < k → f (conI xs)[j] = false) ∧ Sl.Sep w wr [])) (fun i _ => N - (intOf i).toNat)
 case atStart => exact ⟨0, Nat.zero_le _, rfl, And.intro (fun j hj h => absurd h (by omega)) S1.out⟩
 case round =>
  obtain ⟨k, hk, rfl, hrel⟩ := hrel
  have HA := Lib.hid hrel.out.1
  have S2 := Lib.hid hrel.out.2
  clear hrel S1
  by_cases hlt : (k : Int) < (N : Int)
  ·
   skip
   have hkl : k < xs.length := by have := HN.out; omega
   obtain ⟨ad, x, rfl, hx⟩ := readsI_some (HR.out _ S2.out.old) k hkl
   have HC := Lib.hid (show (conI xs)[k]? = some x.con from con_of hx)
   have HPX := Lib.hid (fun w' (h : Below w.heap.size w w') => HP.out x (List.mem_of_getElem? hx) w' h)
   obtain ⟨⟨kd, n, t⟩, ia, ic, l⟩ := x
   have HK := Lib.hid (fun w' (h : Below w.heap.size w w') => readsI_at (HR.out _ h) k _ hx)
   try dsimp only at HK HPX
   clear hx
   obtain ⟨b, hb⟩ : ∃ b, f (LI.mk ⟨kd, n, t⟩ ia ic l).con = b := ⟨_, rfl⟩
   rw [hb] at HPX
   have HB := Lib.hid hb
   clear hb
   obtain ⟨f0, f1, f2, f3⟩ := HK.out _ S2.out.old
   go_wp2_with fail
   go_at_call 93
   refine (HPX.out _ S2.out.old).mono ?_
   rintro e w3 ⟨rfl, hb⟩
   clear f0 f1 f2 f3
   have S3 := Lib.hid (S2.out.keep hb)
   clear S2
   clear hb
   cases b with
   | true =>
    go_wp2_with fail
    go_ret
    exact ⟨by rw [ixP_at k _ HC.out HB.out HA.out]; rfl, S3.out.old⟩
   | false =>
    go_wp2_with fail
    go_roundw
    case rel => exact ⟨k + 1, by omega, by go_num, And.intro (fun j hj h => by
     by_cases e : j < k
     ·
      exact HA.out j hj e
     ·
      obtain rfl : j = k := by omega
      rw [(List.getElem?_eq_some_iff.1 HC.out).2]; exact HB.out) S3.out⟩
    case measure => simp [intOf]; omega
  ·
   skip
   go_wp2_with fail
   go_ret
   obtain rfl : k = N := by omega
   exact ⟨by rw [ixP_none (fun j hj => HA.out j hj (by have := HN.out; rw [conI_length] at hj; omega))]; rfl, S2.out.old⟩
set_option maxHeartbeats 2000000 in
theorem findItem1_any (kd n : Int) (t : ByteArray) (ia : Option Addr) (ln ic g : Nat) (kd2 n2 : Int) (t2 : ByteArray) (w : World) (hg : g < w.heap.size) (h0 : w.cell? ⟨g, 0, none⟩ = some (.int .i64 kd2)) (h1 : w.cell? ⟨g, 1, none⟩ = some (.int .i64 n2)) (h2 : w.cell? ⟨g, 2, none⟩ = some (.string t2)) :
  Calls Try.prog 93 #[.agg #[.int .i64 kd, .int .i64 n, .string t, .slice ia ln ic], .pointer (some ⟨g, 0, none⟩)] w fun e w' => e = .returned (.bool (eqK ⟨kd, n, t⟩ ⟨kd2, n2, t2⟩)) ∧ Below w.heap.size w w' := by
 obtain ⟨b, hb⟩ : ∃ b, eqK ⟨kd, n, t⟩ ⟨kd2, n2, t2⟩ = b := ⟨_, rfl⟩
 have HE := fun w => key_eq kd n t kd2 n2 t2 w
 rw [hb] at HE ⊢
 clear hb
 have HK := Lib.hid (fun w' (h : Below w.heap.size w w') => (⟨(h.cell (p := ⟨g, 0, none⟩) hg).trans h0, (h.cell (p := ⟨g, 1, none⟩) hg).trans h1, (h.cell (p := ⟨g, 2, none⟩) hg).trans h2⟩ : w'.cell? ⟨g, 0, none⟩ = some (.int .i64 kd2) ∧ w'.cell? ⟨g, 1, none⟩ = some (.int .i64 n2) ∧ w'.cell? ⟨g, 2, none⟩ = some (.string t2)))
 clear h0 h1 h2
 have S1 := Lib.hid (show Sl.Sep w _ [_] from L4.push_box (Sl.Sep.start w) 40 #[.int .i64 kd, .int .i64 n, .string t, .slice ia ln ic] (w.heap.size) (by simp))
 obtain ⟨wa, hwa⟩ : ∃ u, u = (w.alloc (.cells #[.int .i64 kd, .int .i64 n, .string t, .slice ia ln ic] 40)) := ⟨_, rfl⟩
 rw [← hwa] at S1
 go_enter Try.func93, Try.ntmps93
 go_upto_region 1 with fail
 rw [← hwa]
 clear hwa
 obtain ⟨f0, f1, f2, f3⟩ := Bag.cs4 S1.out 0 rfl
 obtain ⟨f4, f5, f6⟩ := HK.out _ S1.out.old
 go_wp2_with fail
 go_ret
 exact ⟨rfl, S1.out.old⟩
set_option maxHeartbeats 2000000 in
theorem findItem_any (y : LS) (k0 : K) (hf : FitS y.con) (w : World) (hr : RowsRd w w.heap.size y.rows) :
  Calls Try.prog 20 #[y.v, k0.v] w fun e w' => e = .returned (.int .i64 (fndI y.con.items k0)) ∧ Below w.heap.size w w' := by
 obtain ⟨name, a, c, xs, auto⟩ := y
 have HR := Lib.hid (fun w' (h : Below w.heap.size w w') => LS.outer (hr.below h))
 have HX := Lib.hid (fun w' (h : Below w.heap.size w w') => (LS.inner (hr.below h)).more h.size)
 have HF := Lib.hid hf.items
 have HNM := Lib.hid hf.name
 have hl := hf.len
 simp only [LS.con, conI_length] at hl
 dsimp only [LS.con] at HR HX HF HNM
 try unfold LS.v LS.cells LS.con
 try dsimp only
 obtain ⟨N, hN⟩ : ∃ n, n = xs.length := ⟨_, rfl⟩
 rw [← hN] at hl ⊢
 have hl' : (N : Int) ≤ 1048576 := by omega
 have HN := Lib.hid hN
 clear hN hr hf
 obtain ⟨kd2, n2, t2⟩ := k0
 unfold L4.K.v
 dsimp only [LS.con]
 have hmf : ∀ (fn : Fn) (first cap : Array Value) (w : World), (Instr.makeFunc fn first cap).run Try.prog w = .ok (.func fn first cap) w := fun _ _ _ _ => rfl
 have S1 := Lib.hid (show Sl.Sep w _ [_, _] from L4.push_box (L4.push_box (Sl.Sep.start w) 26 #[.string name, .slice a N c, .int .i64 auto] (w.heap.size) (by simp)) 28 #[.int .i64 kd2, .int .i64 n2, .string t2] (w.heap.size + 1) (by simp))
 obtain ⟨wa, hwa⟩ : ∃ u, u = ((w.alloc (.cells #[.string name, .slice a N c, .int .i64 auto] 26)).alloc (.cells #[.int .i64 kd2, .int .i64 n2, .string t2] 28)) := ⟨_, rfl⟩
 rw [← hwa] at S1
 go_enter Try.func20, Try.ntmps20
 go_upto_region 1 with fail
 rw [← hwa]
 clear hwa
 have hln := HN.out
 have HIF := Lib.hid (indexFuncA_any (w.heap.size + 1) (fun x => eqK x.k ⟨kd2, n2, t2⟩) a c xs (by omega) wa (HR.out _ S1.out.old |>.more S1.out.old.size) (fun x hx w' hb => by
  have c0 := Below.cell hb (p := ⟨w.heap.size + 1, 0, none⟩) (S1.out.lies 1 _ rfl _ (by simp [L4.boxR])).2
  have c1 := Below.cell hb (p := ⟨w.heap.size + 1, 1, none⟩) (S1.out.lies 1 _ rfl _ (by simp [L4.boxR])).2
  have c2 := Below.cell hb (p := ⟨w.heap.size + 1, 2, none⟩) (S1.out.lies 1 _ rfl _ (by simp [L4.boxR])).2
  exact findItem1_any _ _ _ _ _ _ _ _ _ _ w' (Nat.lt_of_lt_of_le (S1.out.lies 1 _ rfl _ (by simp [L4.boxR])).2 hb.size) (c0.trans (Bag.cell_at S1.out 1 rfl 0 rfl)) (c1.trans (Bag.cell_at S1.out 1 rfl 1 rfl)) (c2.trans (Bag.cell_at S1.out 1 rfl 2 rfl))))
 rw [← hln, ← fndI_ixP] at HIF
 clear hln
 obtain ⟨f0, f1, f2⟩ := Bag.cs3 S1.out 0 rfl
 obtain ⟨f3, f4, f5⟩ := Bag.cs3 S1.out 1 rfl
 go_wp2_with fail
 go_at_call 92
 refine HIF.out.mono ?_
 rintro e w3 ⟨rfl, hb⟩
 clear f0 f1 f2 f3 f4 f5
 have S2 := Lib.hid (S1.out.keep hb)
 clear S1
 clear hb
 go_wp2_with fail
 go_ret
 exact ⟨rfl, S2.out.old⟩
end Go.Proofs.Ytojcdmgcbgpdmaa.L6

namespace Go.Proofs.Ytojcdmgcbgpdmaa.L4
open Go.ChangeShapes Go.WideShapes Go.ChangeAt Go.RowKit Mem Sl Ex L2
def isLet (c : UInt8) : Bool := decide (97 ≤ c.toNat) && decide (c.toNat ≤ 122)
theorem isLetter_any (c : UInt8) (w : World) :
    Calls Try.prog 170 #[.int .u8 c.toNat] w fun e w' => e = .returned (.bool (isLet c)) ∧ w = w' := by
  by_cases h1 : (97 : Int) ≤ c.toNat <;> by_cases h2 : (c.toNat : Int) ≤ 122 <;>
    (go_enter Try.func170, Try.ntmps170
     go_wp2
     go_ret
     exact ⟨L1.ret_bool (by unfold isLet; have h1' := h1; have h2' := h2; simp only [Bool.false_eq, Bool.true_eq, Bool.and_eq_false_iff, Bool.and_eq_true, decide_eq_false_iff_not, decide_eq_true_eq]; omega), rfl⟩)
end Go.Proofs.Ytojcdmgcbgpdmaa.L4

namespace Go.Proofs.Ytojcdmgcbgpdmaa.L5
open Go.Op (bytesLess)
open Go.ChangeShapes Go.WideShapes Go.ChangeAt Go.RowKit Mem Sl Ex L2 Sv

theorem low_isLet (c : UInt8) : L4.isLet c = low c := rfl
theorem isName_any (s : ByteArray) (hs : s.size ≤ 281474976710656) (w : World) :
  Calls Try.prog 97 #[.string s] w fun e w' => e = .returned (.bool (isN s.data.toList)) ∧ w = w' := by
 have hsz : s.data.toList.length = s.size := by rw [Array.length_toList]; rfl
 have HZ := Lib.hid hsz
 clear hsz
 have HI := Lib.hid (fun w => L1.inRange_any (s.size : Int) 1 8 w)
 have HS := Lib.hid (show L1.inB (s.size : Int) 1 8 = false → isN s.data.toList = false from fun h => by
  unfold isN
  rw [Bool.and_eq_false_iff]
  right
  rw [HZ.out, ← h]
  unfold L1.inB
  congr 1 <;> (rw [decide_eq_decide]; omega))
 obtain ⟨bi, hbi⟩ : ∃ b, L1.inB (s.size : Int) 1 8 = b := ⟨_, rfl⟩
 rw [hbi] at HI HS
 have HB0 := Lib.hid hbi
 clear hbi
 cases bi with
 | false =>
  replace HS := Lib.hid (HS.out rfl)
  go_enter Try.func97, Try.ntmps97
  go_wp2_with (go_at_call 98; refine (HI.out _).mono ?_; rintro e w1 ⟨rfl, rfl⟩)
  go_ret
  exact ⟨by rw [HS.out]; rfl, rfl⟩
 | true =>
  go_enter Try.func97, Try.ntmps97
  go_wp2_with (go_at_call 98; refine (HI.out _).mono ?_; rintro e w1 ⟨rfl, rfl⟩)
  go_loop [10] (fun i => ∃ k : Nat, k ≤ s.size ∧ i = .int .i64 k ∧ Hid (∀ j (hj : j < s.data.toList.length), j < k → low s.data.toList[j] = true)) (fun i => s.size - (intOf i).toNat)
  case atStart => exact ⟨0, Nat.zero_le _, rfl, fun j hj h => by omega⟩
  case round =>
   obtain ⟨k, hk, rfl, hrel⟩ := hrel
   by_cases hlt : k < s.size
   ·
    have hb : s.data.toList[k]? = some s[k] := by
     rw [List.getElem?_eq_getElem (by rw [HZ.out]; exact hlt)]
     rfl
    have HB := Lib.hid hb
    clear hb
    have H1 := Lib.hid (fun w => L4.isLetter_any s[k] w)
    obtain ⟨bl, hbl⟩ : ∃ b, L4.isLet s[k] = b := ⟨_, rfl⟩
    rw [hbl] at H1
    rw [low_isLet] at hbl
    have HL := Lib.hid hbl
    clear hbl
    cases bl with
    | true =>
     go_wp2_with (go_at_call 170; refine (H1.out _).mono ?_; rintro e w1 ⟨rfl, rfl⟩)
     go_round
     case rel => exact ⟨k + 1, by omega, by go_num, fun j hj h => by
       by_cases e : j < k
       ·
        exact hrel.out j hj e
       ·
        obtain rfl : j = k := by omega
        have := HB.out
        rw [List.getElem?_eq_getElem hj] at this
        rw [Option.some.inj this]
        exact HL.out⟩
     case measure => simp [intOf]; omega
    | false =>
     go_wp2_with (go_at_call 170; refine (H1.out _).mono ?_; rintro e w1 ⟨rfl, rfl⟩)
     go_ret
     exact ⟨by rw [isN_no k _ HB.out HL.out]; rfl, rfl⟩
   ·
    go_wp2_with fail
    go_ret
    obtain rfl : k = s.size := by omega
    have e1 := isN_all (fun j hj => hrel.out j hj (by rw [HZ.out] at hj; exact hj))
    rw [HZ.out, HB0.out] at e1
    exact ⟨by rw [e1]; rfl, rfl⟩

end Go.Proofs.Ytojcdmgcbgpdmaa.L5

set_option linter.unusedSimpArgs false
namespace Go.Proofs.Ytojcdmgcbgpdmaa.L5
open Go.Op (bytesLess)
open L4 (boxR push_box box_at)
open Go.ChangeShapes Go.WideShapes Go.ChangeAt Go.RowKit Mem Sl Ex L2 Sv

theorem isR_long {l : List F} (h : ¬ l.length ≤ 6) : isR l = false := by
 unfold isR
 rw [Bool.and_eq_false_iff]
 exact .inr (decide_eq_false h)
theorem Row.two {w : World} {g : Nat} {t : TypeId} {x y : Value} (h : Row w g t #[x, y]) : w.cell? ⟨g, 0, none⟩ = some x ∧ w.cell? ⟨g, 1, none⟩ = some y := ⟨by rw [h.cell]; rfl, by rw [h.cell]; rfl⟩
set_option maxHeartbeats 4000000 in
theorem isRecord_any (a : Option Addr) (c : Nat) (l : List F) (hl : l.length ≤ 1099511627776) (hsm : Small l) (w : World) (hr : Reads w w.heap.size a (cellsF l)) :
  Calls Try.prog 100 #[.agg #[.slice a l.length c]] w fun e w' => e = .returned (.bool (isR l)) ∧ Below w.heap.size w w' := by
 have HR := Lib.hid (fun w' (h : Below w.heap.size w w') => hr.below h)
 obtain ⟨n, hn⟩ : ∃ n, n = l.length := ⟨_, rfl⟩
 rw [← hn]
 rw [← hn] at hl
 have HN := Lib.hid hn
 have HS := Lib.hid hsm
 clear hn hr hsm
 have hl' : (n : Int) ≤ 1099511627776 := by omega
 have S1 := Lib.hid (push_box (Sep.start w) 31 #[.slice a n c] w.heap.size rfl)
 obtain ⟨W1, hW1⟩ : ∃ u, u = w.alloc (.cells #[.slice a n c] 31) := ⟨_, rfl⟩
 rw [← hW1] at S1
 go_enter Try.func100, Try.ntmps100
 go_upto_region 1 with fail
 rw [← hW1]
 clear hW1
 obtain ⟨r0, r1⟩ := Row.one (box_at S1.out 0 rfl)
 by_cases h6 : (n : Int) ≤ 6
 rotate_left
 ·
  have HX := Lib.hid (isR_long (l := l) (by have := HN.out; omega))
  have h6' : (6 : Int) < (n : Int) := by omega
  go_wp2_with fail
  go_ret
  exact ⟨by rw [HX.out]; rfl, S1.out.old⟩
 go_wp2_with fail
 go_loopw [12] (fun i wr => ∃ k : Nat, k ≤ n ∧ i = .int .i64 k ∧ Hid (okTo l k ∧ Sep w wr [boxR w.heap.size 31 #[.slice a n c]])) (fun i _ => n - (intOf i).toNat)
 case atStart => exact ⟨0, Nat.zero_le _, rfl, fun j hj h => by omega, S1.out⟩
 case round =>
  obtain ⟨k, hk, rfl, hrel⟩ := hrel
  clear r0 r1
  by_cases hlt : (k : Int) < (n : Int)
  ·
   have hkl : k < l.length := by have := HN.out; omega
   have HRr := Lib.hid (HR.out _ hrel.out.2.old)
   obtain ⟨ad, rfl, had, h1, h2⟩ := readsF HRr.out k hkl
   have HNm := Lib.hid (fun w => isName_any l[k].name (HS.out _ (List.getElem_mem hkl)) w)
   have HI := Lib.hid (fun w => L1.inRange_any l[k].n 0 1000000000 w)
   obtain ⟨bn, hbn⟩ : ∃ b, isN l[k].name.data.toList = b := ⟨_, rfl⟩
   obtain ⟨bi, hbi⟩ : ∃ b, L1.inB l[k].n 0 1000000000 = b := ⟨_, rfl⟩
   have HO := Lib.hid (show okF l[k] = (bn && bi) by unfold okF; rw [hbi]; unfold F.t; rw [hbn])
   rw [hbn] at HNm
   rw [hbi] at HI
   obtain ⟨t, ht⟩ : ∃ t, t = l[k].name := ⟨_, rfl⟩
   obtain ⟨m, hm⟩ : ∃ m, m = l[k].n := ⟨_, rfl⟩
   rw [← ht] at h1 HNm
   rw [← hm] at h2 HI
   clear hbn hbi hm
   have HT := Lib.hid ht
   clear ht
   have S2 := Lib.hid (push_box hrel.out.2 128 #[.string t, .int .i64 m] wr.heap.size rfl)
   obtain ⟨W2, hW2⟩ : ∃ u, u = wr.alloc (.cells #[.string t, .int .i64 m] 128) := ⟨_, rfl⟩
   rw [← hW2] at S2
   have S3 := Lib.hid (S2.out.drews 1)
   have S4 := Lib.hid (sep_sub S3.out (ts := [boxR w.heap.size 31 #[.slice (some ad) n c]]) id (fun i r h => by match i, h with | 0, h => exact h) (fun i j _ _ h => h))
   rcases Nat.eq_zero_or_pos k with rfl | hk0
   ·
    rw [Nat.zero_mul, show ad.add 0 = ad by simp [Addr.add]] at h1 h2
    go_upto_region 6 with fail
    rw [← hW2]
    clear hW2
    obtain ⟨r0, r1⟩ := Row.one (box_at S2.out 0 rfl)
    obtain ⟨q0, q1⟩ := Row.two (box_at S2.out 1 rfl)
    by_cases hb : (bn && bi) = true
    ·
     simp only [Bool.and_eq_true] at hb
     obtain ⟨rfl, rfl⟩ := hb
     have HOt := Lib.hid (show okF l[0] = true from HO.out)
     clear HO
     go_upto_region 8 with (first | (go_at_call 97; refine (HNm.out _).mono ?_; rintro e w1 ⟨rfl, rfl⟩) | (go_at_call 98; refine (HI.out _).mono ?_; rintro e w1 ⟨rfl, rfl⟩))
     refine wp_region_held_drew (S := (fun w' => w'.cell? ⟨w.heap.size, 0, none⟩ = some (.slice (some ad) n c) ∧ w'.cell? ⟨wr.heap.size, 0, none⟩ = some (.string t))) (by kernel_rfl) ⟨r0, q0⟩ (fun hS => ?_)
     refine tk 0 rfl ?_
     try simp only [zp0, zp1, zp2, zp3, zp4]
     refine tk 1 rfl ?_
     try simp only [zp0, zp1, zp2, zp3, zp4]
     refine tk 2 rfl ?_
     try simp only [zp0, zp1, zp2, zp3, zp4]
     refine sk 3 rfl ?_
     try simp only [zp0, zp1, zp2, zp3, zp4]
     refine sk 4 rfl ?_
     try simp only [zp0, zp1, zp2, zp3, zp4]
     refine sk 5 rfl ?_
     try simp only [zp0, zp1, zp2, zp3, zp4]
     refine sk 6 rfl ?_
     try simp only [zp0, zp1, zp2, zp3, zp4]
     refine sk 7 rfl ?_
     try simp only [zp0, zp1, zp2, zp3, zp4]
     refine sk 8 rfl ?_
     try simp only [zp0, zp1, zp2, zp3, zp4]
     refine sk 9 rfl ?_
     try simp only [zp0, zp1, zp2, zp3, zp4]
     refine sk 10 rfl ?_
     try simp only [zp0, zp1, zp2, zp3, zp4]
     refine sk 11 rfl ?_
     try simp only [zp0, zp1, zp2, zp3, zp4]
     refine sk 12 rfl ?_
     try simp only [zp0, zp1, zp2, zp3, zp4]
     refine tk 13 rfl ?_
     try simp only [zp0, zp1, zp2, zp3, zp4]
     refine wpAnyH_done (by kernel_rfl) ?_ _
     go_wp2_with fail
     go_roundw
     case rel => exact ⟨1, by omega, by go_num, fun j hj h => by
       obtain rfl : j = 0 := by omega
       exact ⟨HOt.out, fun h0 => by omega⟩, S4.out⟩
     case measure => simp [intOf]; omega
    ·
     have HX := Lib.hid (isR_no 0 hkl (.inl (by rw [HO.out]; simpa using hb)))
     rcases (show bn = false ∨ (bn = true ∧ bi = false) by cases bn <;> simp_all) with rfl | ⟨rfl, rfl⟩
     all_goals
      clear hb HO
      go_wp2_with (first | (go_at_call 97; refine (HNm.out _).mono ?_; rintro e w1 ⟨rfl, rfl⟩) | (go_at_call 98; refine (HI.out _).mono ?_; rintro e w1 ⟨rfl, rfl⟩))
      go_ret
      exact ⟨by rw [HX.out]; rfl, S2.out.old⟩
   ·
    obtain ⟨j, rfl⟩ : ∃ j, k = j + 1 := ⟨k - 1, by omega⟩
    go_upto_region 6 with fail
    rw [← hW2]
    clear hW2
    obtain ⟨r0, r1⟩ := Row.one (box_at S2.out 0 rfl)
    obtain ⟨q0, q1⟩ := Row.two (box_at S2.out 1 rfl)
    by_cases hb : (bn && bi) = true
    ·
     simp only [Bool.and_eq_true] at hb
     obtain ⟨rfl, rfl⟩ := hb
     have HOt := Lib.hid (show okF l[j + 1] = true from HO.out)
     clear HO
     obtain ⟨ad', e', -, h3, -⟩ := readsF (HR.out _ S2.out.old) j (by omega)
     injection e' with e'
     subst e'
     obtain ⟨p, hp⟩ : ∃ p, p = (l[j]'(by omega)).name := ⟨_, rfl⟩
     rw [← hp] at h3
     have hwj : IntKind.i64.wrap (j : Int) = (j : Int) := IntWalk.i64_in _ ⟨by omega, by omega⟩
     have k1 : (0 : Int) ≤ (j : Int) + 1 := by omega
     have k2 : (j : Int) + 1 < (n : Int) := by omega
     have k3 : (0 : Int) ≤ (j : Int) := by omega
     have k4 : (j : Int) < (n : Int) := by omega
     have hge := string_geq
     obtain ⟨bo, hbo⟩ : ∃ b, bytesLess p.toList t.toList = b := ⟨_, rfl⟩
     have HB := Lib.hid (show bytesLess (l[j]'(by omega)).t l[j + 1].t = bo by unfold F.t; rw [← hp, ← HT.out, ← hbo, ByteArray.toList_eq, ByteArray.toList_eq])
     clear hp
     cases bo with
     | false =>
      have HX := Lib.hid (isR_no (j + 1) hkl (.inr ⟨Nat.succ_pos j, HB.out⟩))
      go_upto_region 8 with (first | (go_at_call 97; refine (HNm.out _).mono ?_; rintro e w1 ⟨rfl, rfl⟩) | (go_at_call 98; refine (HI.out _).mono ?_; rintro e w1 ⟨rfl, rfl⟩))
      refine wp_region_held_drew (S := (fun w' => w'.cell? ⟨w.heap.size, 0, none⟩ = some (.slice (some ad) n c) ∧ w'.cell? ⟨wr.heap.size, 0, none⟩ = some (.string t) ∧ w'.cell? (ad.add (j * 2)) = some (.string p))) (by kernel_rfl) ⟨r0, q0, h3⟩ (fun hS => ?_)
      refine tk 0 rfl ?_
      try simp only [zp0, zp1, zp2, zp3, zp4]
      refine tk 1 rfl ?_
      try simp only [zp0, zp1, zp2, zp3, zp4]
      refine tk 2 rfl ?_
      try simp only [zp0, zp1, zp2, zp3, zp4]
      refine tk 3 rfl ?_
      try simp only [zp0, zp1, zp2, zp3, zp4]
      refine tk 4 rfl ?_
      try simp only [zp0, zp1, zp2, zp3, zp4]
      refine tk 5 rfl ?_
      try simp only [zp0, zp1, zp2, zp3, zp4]
      refine tk 6 rfl ?_
      try simp only [zp0, zp1, zp2, zp3, zp4]
      refine tk 7 rfl ?_
      try simp only [zp0, zp1, zp2, zp3, zp4]
      refine tk 8 rfl ?_
      try simp only [zp0, zp1, zp2, zp3, zp4]
      refine tk 9 rfl ?_
      try simp only [zp0, zp1, zp2, zp3, zp4]
      refine tk 10 rfl ?_
      try simp only [zp0, zp1, zp2, zp3, zp4]
      refine tk 11 rfl ?_
      try simp only [zp0, zp1, zp2, zp3, zp4]
      refine tk 12 rfl ?_
      try simp only [zp0, zp1, zp2, zp3, zp4]
      refine tk 13 rfl ?_
      try simp only [zp0, zp1, zp2, zp3, zp4]
      refine wpAnyH_done (by kernel_rfl) ?_ _
      go_wp2_with fail
      go_ret
      exact ⟨by rw [HX.out]; rfl, S4.out.old⟩
     | true =>
      go_upto_region 8 with (first | (go_at_call 97; refine (HNm.out _).mono ?_; rintro e w1 ⟨rfl, rfl⟩) | (go_at_call 98; refine (HI.out _).mono ?_; rintro e w1 ⟨rfl, rfl⟩))
      refine wp_region_held_drew (S := (fun w' => w'.cell? ⟨w.heap.size, 0, none⟩ = some (.slice (some ad) n c) ∧ w'.cell? ⟨wr.heap.size, 0, none⟩ = some (.string t) ∧ w'.cell? (ad.add (j * 2)) = some (.string p))) (by kernel_rfl) ⟨r0, q0, h3⟩ (fun hS => ?_)
      refine tk 0 rfl ?_
      try simp only [zp0, zp1, zp2, zp3, zp4]
      refine tk 1 rfl ?_
      try simp only [zp0, zp1, zp2, zp3, zp4]
      refine tk 2 rfl ?_
      try simp only [zp0, zp1, zp2, zp3, zp4]
      refine tk 3 rfl ?_
      try simp only [zp0, zp1, zp2, zp3, zp4]
      refine tk 4 rfl ?_
      try simp only [zp0, zp1, zp2, zp3, zp4]
      refine tk 5 rfl ?_
      try simp only [zp0, zp1, zp2, zp3, zp4]
      refine tk 6 rfl ?_
      try simp only [zp0, zp1, zp2, zp3, zp4]
      refine tk 7 rfl ?_
      try simp only [zp0, zp1, zp2, zp3, zp4]
      refine tk 8 rfl ?_
      try simp only [zp0, zp1, zp2, zp3, zp4]
      refine tk 9 rfl ?_
      try simp only [zp0, zp1, zp2, zp3, zp4]
      refine tk 10 rfl ?_
      try simp only [zp0, zp1, zp2, zp3, zp4]
      refine tk 11 rfl ?_
      try simp only [zp0, zp1, zp2, zp3, zp4]
      refine tk 12 rfl ?_
      try simp only [zp0, zp1, zp2, zp3, zp4]
      refine tk 13 rfl ?_
      try simp only [zp0, zp1, zp2, zp3, zp4]
      refine wpAnyH_done (by kernel_rfl) ?_ _
      go_wp2_with fail
      go_roundw
      case rel => exact ⟨j + 1 + 1, by omega, by go_num, fun q hq h => by
       by_cases e : q < j + 1
       ·
        exact hrel.out.1 q hq e
       ·
        obtain rfl : q = j + 1 := by omega
        exact ⟨HOt.out, fun _ => HB.out⟩, S4.out⟩
      case measure => simp [intOf]; omega
    ·
     have HX := Lib.hid (isR_no (j + 1) hkl (.inl (by rw [HO.out]; simpa using hb)))
     rcases (show bn = false ∨ (bn = true ∧ bi = false) by cases bn <;> simp_all) with rfl | ⟨rfl, rfl⟩
     all_goals
      clear hb HO
      go_wp2_with (first | (go_at_call 97; refine (HNm.out _).mono ?_; rintro e w1 ⟨rfl, rfl⟩) | (go_at_call 98; refine (HI.out _).mono ?_; rintro e w1 ⟨rfl, rfl⟩))
      go_ret
      exact ⟨by rw [HX.out]; rfl, S2.out.old⟩
  ·
   go_wp2_with fail
   go_ret
   exact ⟨by rw [isR_iff.2 ⟨fun j hj _ => hrel.out.1 j hj (by have := HN.out; omega), by have := HN.out; omega⟩]; rfl, hrel.out.2.old⟩
end Go.Proofs.Ytojcdmgcbgpdmaa.L5

namespace Go.Proofs.Ytojcdmgcbgpdmaa.L4
open Go.Op (bytesLess)
open Go.ChangeShapes Go.WideShapes Go.ChangeAt Go.RowKit Mem Sl Ex L2

theorem cmpB_eq : ∀ (x y : List UInt8), Lib.compareBytes x y = cmpL x y
 | [], [] => by simp [Lib.compareBytes, cmpL, sgn, bytesLess]
 | [], _ :: _ => by simp [Lib.compareBytes, cmpL, sgn, bytesLess]
 | _ :: _, [] => by simp [Lib.compareBytes, cmpL, sgn, bytesLess]
 | a :: x, b :: y => by
  rw [cmpL_cons, ← cmpB_eq x y, show Lib.compareBytes (a :: x) (b :: y) = if a < b then -1 else if b < a then 1 else Lib.compareBytes x y by simp only [Lib.compareBytes]]
  by_cases e : a = b
  ·
   subst e
   rw [if_pos rfl, if_neg (UInt8.lt_irrefl _), if_neg (UInt8.lt_irrefl _)]
  ·
   rw [if_neg e]
   by_cases h : a < b
   ·
    rw [if_pos h, cmpL_less (by simp [bytesLess, h])]
   ·
    have h2 : b < a := UInt8.lt_of_le_of_ne (UInt8.not_lt.1 h) (Ne.symm e)
    rw [if_neg h, if_pos h2, cmpL_more (by simp [bytesLess, h2])]

theorem run_loadBytesL {P : Program} (w : World) : ∀ (l : List Int) (a : Addr) (acc : ByteArray), (∀ j (hj : j < l.length), w.cell? (a.add j) = some (.int .u8 l[j])) →
  (Extern.Bytes.loadBytes a l.length acc).run P w = .ok ⟨acc.data ++ (toU l).toArray⟩ w
 | [], a, acc, _ => by simp [Extern.Bytes.loadBytes, toU]
 | x :: l, a, acc, h => by
  have h0 : w.cell? a = some (.int .u8 x) := by
   have := h 0 (Nat.succ_pos _)
   simpa [Addr.add] using this
  have ih := run_loadBytesL (P := P) w l (a.add 1) (acc.push x.toNat.toUInt8) (fun j hj => by
   have := h (j + 1) (Nat.succ_lt_succ hj)
   have e : (a.add 1).add j = a.add (j + 1) := by
    unfold Addr.add
    by_cases hj : j = 0
    ·
     subst hj; simp
    ·
     simp [hj]; omega
   rw [e]; simpa using this)
  simp only [List.length_cons, Extern.Bytes.loadBytes, Sem.run_bind, run_load, h0, Result.andThen]
  rw [ih]
  congr 1
  apply ByteArray.ext
  simp [ByteArray.push, toU, UInt8.ofNat]
theorem run_bytesOf {P : Program} (w : World) (B : Nat) (a : Option Addr) (c : Nat) (l : List Int) (hr : Reads w B a (ints .u8 l)) :
  (Extern.Bytes.bytesOf (.slice a l.length c)).run P w = .ok ⟨(toU l).toArray⟩ w := by
 rcases a with _ | ad
 ·
  have hl : l = [] := by
   rcases l with _ | ⟨x, l⟩
   ·
    rfl
   ·
    obtain ⟨ad, h, _⟩ := hr 0 (by simp [ints])
    cases h
  subst hl
  rfl
 ·
  have := run_loadBytesL (P := P) w l ad .empty (fun j hj => by
   obtain ⟨ad', h, _, hc⟩ := hr j (by simpa using hj)
   injection h with h
   subst h
   rw [hc, ints_get .u8 l j hj])
  unfold Extern.Bytes.bytesOf
  rw [this]
  simp [ByteArray.empty, ByteArray.emptyWithCapacity]
  rfl
theorem run_compareBytes {P : Program} (w : World) (B : Nat) (a a2 : Option Addr) (c c2 : Nat) (l m : List Int) (hr : Reads w B a (ints .u8 l)) (hr2 : Reads w B a2 (ints .u8 m)) :
  (Extern.BytealgCompare.compare #[.slice a l.length c, .slice a2 m.length c2]).run P w = .ok (.int .i64 (cmpL (toU l) (toU m))) w := by
 change Sem.run P (do pure (goInt (Extern.BytealgCompare.cmp (← Extern.Bytes.bytesOf (.slice a l.length c)) (← Extern.Bytes.bytesOf (.slice a2 m.length c2))))) w = _
 simp only [Sem.run_bind, run_bytesOf w B a c l hr, run_bytesOf w B a2 c2 m hr2, Sem.run_pure, Result.andThen]
 rw [Lib.cmp_eq, cmpB_eq]
 rfl

theorem bytesCompare_any (a a2 : Option Addr) (c c2 : Nat) (l m : List Int) (w : World) (B : Nat) (hr : Reads w B a (ints .u8 l)) (hr2 : Reads w B a2 (ints .u8 m)) :
  Calls Try.prog 213 #[.slice a l.length c, .slice a2 m.length c2] w fun e w' => e = .returned (.int .i64 (cmpL (toU l) (toU m))) ∧ w = w' := by
 have K := run_compareBytes (P := Try.prog) w B a a2 c c2 l m hr hr2
 obtain ⟨n1, hn1⟩ : ∃ n, n = l.length := ⟨_, rfl⟩
 obtain ⟨n2, hn2⟩ : ∃ n, n = m.length := ⟨_, rfl⟩
 obtain ⟨v, hv⟩ : ∃ v, v = cmpL (toU l) (toU m) := ⟨_, rfl⟩
 rw [← hn1, ← hn2, ← hv] at K
 rw [← hn1, ← hn2, ← hv]
 clear hn1 hn2 hv hr hr2
 go_enter Try.func213, Try.ntmps213
 go_wp2
 rw [run_callFunc_extern Try.func234 (by kernel_rfl) (by kernel_rfl) (by kernel_rfl) (e := Extern.BytealgCompare.compare) (by kernel_rfl), K]
 simp only [Result.andThen]
 rw [Oper.upon_value]
 go_wp2
 go_ret
 exact ⟨rfl, rfl⟩
theorem implCompareBytes_any (a a2 : Option Addr) (c c2 : Nat) (l m : List Int) (w : World) (B : Nat) (hr : Reads w B a (ints .u8 l)) (hr2 : Reads w B a2 (ints .u8 m)) :
  Calls Try.prog 175 #[.slice a l.length c, .slice a2 m.length c2] w fun e w' => e = .returned (.int .i64 (cmpL (toU l) (toU m))) ∧ Drew w w' := by
 have H := Lib.hid (fun w hr hr2 => bytesCompare_any a a2 c c2 l m w B hr hr2)
 go_enter Try.func175, Try.ntmps175
 go_wp2_with (go_at_call 213; with_reducible refine (H.out _ hr hr2).mono ?_; rintro e w1 ⟨rfl, rfl⟩)
 go_ret
 exact ⟨rfl, Drew.refl w⟩

theorem compareString_any (a b : ByteArray) (w : World) :
  Calls Try.prog 214 #[.string a, .string b] w fun e w' => e = .returned (.int .i64 (cmpL a.data.toList b.data.toList)) ∧ w = w' := by
 have K := Lib.run_compareString (P := Try.prog) a b w
 rw [cmpB_eq] at K
 obtain ⟨v, hv⟩ : ∃ v, v = cmpL a.data.toList b.data.toList := ⟨_, rfl⟩
 rw [← hv] at K ⊢
 clear hv
 go_enter Try.func214, Try.ntmps214
 go_wp2
 rw [run_callFunc_extern Try.func235 (by kernel_rfl) (by kernel_rfl) (by kernel_rfl) (e := Extern.BytealgCompare.compare) (by kernel_rfl), K]
 simp only [Result.andThen]
 rw [Oper.upon_value]
 go_wp2
 go_ret
 exact ⟨rfl, rfl⟩
theorem stringsCompare_any (a b : ByteArray) (w : World) :
  Calls Try.prog 176 #[.string a, .string b] w fun e w' => e = .returned (.int .i64 (cmpL a.data.toList b.data.toList)) ∧ w = w' := by
 have H := Lib.hid (fun w => compareString_any a b w)
 go_enter Try.func176, Try.ntmps176
 go_wp2_with (go_at_call 214; with_reducible refine (H.out _).mono ?_; rintro e w1 ⟨rfl, rfl⟩)
 go_ret
 exact ⟨rfl, rfl⟩
theorem isNaN_any (x : Int) (w : World) :
  Calls Try.prog 212 #[.int .i64 x] w fun e w' => e = .returned (.bool false) ∧ w = w' := by
 go_enter Try.func212, Try.ntmps212
 go_wp2
 go_ret
 exact ⟨by simp, rfl⟩
theorem cmpInt_any (x y : Int) (hn : ¬ x = y) (w : World) :
  Calls Try.prog 173 #[.int .i64 x, .int .i64 y] w fun e w' => e = .returned (.int .i64 (sgn (decide (x < y)) true)) ∧ w = w' := by
 have H := Lib.hid isNaN_any
 rcases (show x < y ∨ (¬ x < y ∧ x > y) by omega) with h | ⟨h, h2⟩
 all_goals
  go_enter Try.func173, Try.ntmps173
  go_wp2_with (go_at_call 212; refine (H.out _ _).mono ?_; rintro e w1 ⟨rfl, rfl⟩)
  go_ret
  exact ⟨by simp [h, sgn], rfl⟩
end Go.Proofs.Ytojcdmgcbgpdmaa.L4

namespace Go.Proofs.Ytojcdmgcbgpdmaa.L4
open Go.ChangeShapes Go.WideShapes Go.ChangeAt Go.RowKit Mem Sl Ex L2

def isDig (c : UInt8) : Bool := decide (48 ≤ c.toNat) && decide (c.toNat ≤ 57)
theorem chr_eq (c : UInt8) : chr c = (isLet c || isDig c) := rfl

theorem isDigit_any (c : UInt8) (w : World) :
    Calls Try.prog 211 #[.int .u8 c.toNat] w fun e w' => e = .returned (.bool (isDig c)) ∧ w = w' := by
  by_cases h1 : (48 : Int) ≤ c.toNat <;> by_cases h2 : (c.toNat : Int) ≤ 57 <;>
    (go_enter Try.func211, Try.ntmps211
     go_wp2
     go_ret
     exact ⟨L1.ret_bool (by unfold isDig; have h1' := h1; have h2' := h2; simp only [Bool.false_eq, Bool.true_eq, Bool.and_eq_false_iff, Bool.and_eq_true, decide_eq_false_iff_not, decide_eq_true_eq]; omega), rfl⟩)
theorem isKeyNumber_any (n : Int) (w : World) :
    Calls Try.prog 171 #[.int .i64 n] w fun e w' => e = .returned (.bool (L1.inB n (-1000000000000) 1000000000000)) ∧ w = w' := by
  have H1 := Lib.hid (fun w => L1.inRange_any n (-1000000000000) 1000000000000 w)
  obtain ⟨b, hb⟩ : ∃ b, L1.inB n (-1000000000000) 1000000000000 = b := ⟨_, rfl⟩
  rw [hb] at H1 ⊢
  go_enter Try.func171, Try.ntmps171
  go_wp2_with (go_at_call 98; with_reducible refine (H1.out _).mono ?_; rintro e w1 ⟨rfl, rfl⟩)
  go_ret
  exact ⟨rfl, rfl⟩
theorem isKeyText_any (s : ByteArray) (hs : s.size ≤ 281474976710656) (w : World) :
    Calls Try.prog 172 #[.string s] w fun e w' => e = .returned (.bool (isT s.data.toList)) ∧ w = w' := by
  have hsz : s.data.toList.length = s.size := by rw [Array.length_toList]; rfl
  have HZ := Lib.hid hsz
  clear hsz
  by_cases h12 : (s.size : Int) ≤ 12
  · go_enter Try.func172, Try.ntmps172
    go_wp2
    go_loop [9] (fun i => ∃ k : Nat, k ≤ s.size ∧ i = .int .i64 k ∧ Hid (∀ j (hj : j < s.data.toList.length), j < k → chr s.data.toList[j] = true)) (fun i => s.size - (intOf i).toNat)
    case atStart => exact ⟨0, Nat.zero_le _, rfl, fun j hj h => by omega⟩
    case round =>
      obtain ⟨k, hk, rfl, hrel⟩ := hrel
      by_cases hlt : k < s.size
      · have hb : s.data.toList[k]? = some s[k] := by
          rw [List.getElem?_eq_getElem (by rw [HZ.out]; exact hlt)]
          rfl
        have HB := Lib.hid hb
        clear hb
        have HC := Lib.hid (chr_eq s[k])
        have H1 := Lib.hid (fun w => isLetter_any s[k] w)
        have H2 := Lib.hid (fun w => isDigit_any s[k] w)
        obtain ⟨bl, hbl⟩ : ∃ b, isLet s[k] = b := ⟨_, rfl⟩
        obtain ⟨bd, hbd⟩ : ∃ b, isDig s[k] = b := ⟨_, rfl⟩
        rw [hbl] at H1 HC
        rw [hbd] at H2 HC
        clear hbl hbd
        cases bl
        all_goals
          cases bd
          all_goals
            go_wp2_with (first
              | (go_at_call 170; refine (H1.out _).mono ?_; rintro e w1 ⟨rfl, rfl⟩)
              | (go_at_call 211; refine (H2.out _).mono ?_; rintro e w1 ⟨rfl, rfl⟩))
            first
            | (go_round
               case rel => exact ⟨k + 1, by omega, by go_num, fun j hj h => by
                  by_cases e : j < k
                  · exact hrel.out j hj e
                  · obtain rfl : j = k := by omega
                    have := HB.out
                    rw [List.getElem?_eq_getElem hj] at this
                    rw [Option.some.inj this]
                    exact HC.out⟩
               case measure => simp [intOf]; omega)
            | (go_ret
               exact ⟨by rw [isT_no k _ HB.out HC.out]; rfl, rfl⟩)
      · go_wp2
        go_ret
        obtain rfl : k = s.size := by omega
        have e1 := isT_all (fun j hj => hrel.out j hj (by rw [HZ.out] at hj; exact hj))
        rw [HZ.out] at e1
        refine ⟨?_, rfl⟩
        rw [e1, decide_eq_true (show s.size ≤ 12 by omega)]
        rfl
  · go_enter Try.func172, Try.ntmps172
    go_wp2
    go_ret
    refine ⟨?_, rfl⟩
    have : isT s.data.toList = false := by
      unfold isT
      rw [HZ.out, decide_eq_false (show ¬ s.size ≤ 12 by omega), Bool.and_false]
    rw [this]
    rfl
set_option maxHeartbeats 2000000 in
theorem implIsKey_any (k : K) (hs : k.text.size ≤ 281474976710656) (w : World) :
    Calls Try.prog 99 #[k.v] w fun e w' => e = .returned (.bool (isK k)) ∧ Below w.heap.size w w' := by
  obtain ⟨kd, n, s⟩ := k
  unfold K.v
  obtain ⟨b2, hb2⟩ : ∃ b, L1.inB n (-1000000000000) 1000000000000 = b := ⟨_, rfl⟩
  obtain ⟨b4, hb4⟩ : ∃ b, isT s.data.toList = b := ⟨_, rfl⟩
  have H2 := Lib.hid (fun w => isKeyNumber_any n w)
  have H4 := Lib.hid (fun w => isKeyText_any s hs w)
  rw [hb2] at H2
  rw [hb4] at H4
  obtain ⟨c0, hc0⟩ : ∃ b, (n == 0) = b := ⟨_, rfl⟩
  obtain ⟨ct, hct⟩ : ∃ b, (s.toList == []) = b := ⟨_, rfl⟩
  have HE := show isK ⟨kd, n, s⟩ = (L1.inB kd 1 3 && b2 && (kd != 2 || c0) && b4 && (kd != 1 || ct)) by unfold isK; rw [hb2, show K.t ⟨kd, n, s⟩ = s.data.toList from rfl, hb4, ← hct, ByteArray.toList_eq, ← hc0]
  have hx1 : ct = true → b4 = true := fun h => by
    rw [h, ByteArray.toList_eq, beq_iff_eq] at hct
    rw [← hb4, hct]
    rfl
  have hx2 : c0 = true → b2 = true := fun h => by
    rw [h, beq_iff_eq] at hc0
    rw [← hb2, hc0]
    rfl
  have HB := Lib.hid (fun o => below_alloc (Below.refl w.heap.size w) o (Nat.le_refl _))
  clear hb2 hb4
  rcases (show kd = 1 ∨ kd = 2 ∨ kd = 3 ∨ (kd ≠ 1 ∧ kd ≠ 2 ∧ kd ≠ 3) by omega) with rfl | rfl | rfl | ⟨hk1, hk2, hk3⟩
  · rw [show isK ⟨1, n, s⟩ = (b2 && ct) by rw [HE]; revert hx1; cases b2 <;> cases b4 <;> cases ct <;> simp [L1.inB]]
    clear HE hc0 hx1 hx2
    rcases (show b2 = false ∨ b2 = true by cases b2 <;> simp) with rfl | rfl
    all_goals
      go_enter Try.func99, Try.ntmps99
      go_wp2_with (go_at_call 171; with_reducible refine (H2.out _).mono ?_; rintro e w1 ⟨rfl, rfl⟩)
      go_ret
      exact ⟨rfl, HB.out _⟩
  · rw [show isK ⟨2, n, s⟩ = (c0 && b4) by rw [HE]; revert hx2; cases b2 <;> cases b4 <;> cases c0 <;> simp [L1.inB]]
    clear HE hct hx1 hx2
    rcases (show c0 = false ∨ c0 = true by cases c0 <;> simp) with rfl | rfl
    all_goals
      go_enter Try.func99, Try.ntmps99
      go_wp2_with (go_at_call 172; refine (H4.out _).mono ?_; rintro e w1 ⟨rfl, rfl⟩)
      go_ret
      exact ⟨rfl, HB.out _⟩
  · rw [show isK ⟨3, n, s⟩ = (b2 && b4) by rw [HE]; cases b2 <;> cases b4 <;> cases c0 <;> cases ct <;> simp [L1.inB]]
    clear HE hct hc0 hx1 hx2
    rcases (show b2 = false ∨ b2 = true by cases b2 <;> simp) with rfl | rfl
    all_goals
      go_enter Try.func99, Try.ntmps99
      go_wp2_with (first
        | (go_at_call 171; with_reducible refine (H2.out _).mono ?_; rintro e w1 ⟨rfl, rfl⟩)
        | (go_at_call 172; refine (H4.out _).mono ?_; rintro e w1 ⟨rfl, rfl⟩))
      go_ret
      exact ⟨rfl, HB.out _⟩
  · have : L1.inB kd 1 3 = false := L1.inB_false.2 (by omega)
    rw [HE, this]
    clear HE hct hc0 hx1 hx2 this
    replace hk1 : ¬ kd = 1 := hk1
    replace hk2 : ¬ kd = 2 := hk2
    replace hk3 : ¬ kd = 3 := hk3
    go_enter Try.func99, Try.ntmps99
    go_wp2_with fail
    go_ret
    exact ⟨by simp, HB.out _⟩
end Go.Proofs.Ytojcdmgcbgpdmaa.L4

namespace Go.Proofs.Ytojcdmgcbgpdmaa.L4
open Go.Op (bytesLess)
open Go.ChangeShapes Go.WideShapes Go.ChangeAt Go.RowKit Mem Sl Ex L2

def numCells (m : Nat) : Array Value := #[.int .u8 ((m / 1099511627776 % 256 : Nat) : Int), .int .u8 ((m / 4294967296 % 256 : Nat) : Int), .int .u8 ((m / 16777216 % 256 : Nat) : Int), .int .u8 ((m / 65536 % 256 : Nat) : Int), .int .u8 ((m / 256 % 256 : Nat) : Int), .int .u8 ((m / 1 % 256 : Nat) : Int)]

set_option maxHeartbeats 2000000 in
theorem encodeNumber_any (n : Int) (m : Nat) (hm : (m : Int) = n + 1000000000000) (h1 : n ≤ 1000000000000) (w : World) :
  Calls Try.prog 174 #[.int .i64 n] w fun e w' => e = .returned (.agg (numCells m)) ∧ Below w.heap.size w w' := by
 obtain ⟨M, hM⟩ : ∃ M : Int, M = n + 1000000000000 := ⟨_, rfl⟩
 have hM0 : 0 ≤ M := by omega
 have hM1 : M ≤ 2000000000000 := by omega
 go_enter Try.func174, Try.ntmps174
 go_wp2
 refine wp_loop_rounds 7 ?_
 iterate 7 (rw [rounds_succ]; go_wp2)
 refine bodyPost_ret (v := .agg _) (by simp [results, Try.results174, go_sem]; rfl) rfl ?_
 refine ⟨?_, below_alloc (below_alloc (Below.refl _ _) _ (Nat.le_refl _)) _ (Nat.le_refl _)⟩
 have e0 : (n + 1000000000000) / 256 / 256 / 256 / 256 / 256 = ((m / 1099511627776 % 256 : Nat) : Int) := by omega
 have e1 : (n + 1000000000000) / 256 / 256 / 256 / 256 % 256 = ((m / 4294967296 % 256 : Nat) : Int) := by omega
 have e2 : (n + 1000000000000) / 256 / 256 / 256 % 256 = ((m / 16777216 % 256 : Nat) : Int) := by omega
 have e3 : (n + 1000000000000) / 256 / 256 % 256 = ((m / 65536 % 256 : Nat) : Int) := by omega
 have e4 : (n + 1000000000000) / 256 % 256 = ((m / 256 % 256 : Nat) : Int) := by omega
 have e5 : (n + 1000000000000) % 256 = ((m / 1 % 256 : Nat) : Int) := by omega
 rw [e0, e1, e2, e3, e4, e5]
 rfl

theorem numCells_form (m : Nat) : ∃ x0 x1 x2 x3 x4 x5 : Int, numCells m = #[.int .u8 x0, .int .u8 x1, .int .u8 x2, .int .u8 x3, .int .u8 x4, .int .u8 x5] ∧ toI (be 6 m) = [x0, x1, x2, x3, x4, x5] := by
 refine ⟨_, _, _, _, _, _, rfl, ?_⟩
 simp only [be, toI, List.map_cons, List.map_nil, UInt8.toNat_ofNat', show (256 ^ 5 : Nat) = 1099511627776 from rfl, show (256 ^ 4 : Nat) = 4294967296 from rfl, show (256 ^ 3 : Nat) = 16777216 from rfl, show (256 ^ 2 : Nat) = 65536 from rfl, show (256 ^ 1 : Nat) = 256 from rfl, show (256 ^ 0 : Nat) = 1 from rfl, Nat.mod_mod]
theorem reads_row {w : World} {g : Nat} {t : TypeId} {k : IntKind} {l : List Int} (h : Row w g t (ints k l).toArray) : Reads w w.heap.size (some ⟨g, 0, none⟩) (ints k l) := fun j hj => by
 refine ⟨_, rfl, by simpa [add_block] using h.inside, ?_⟩
 rw [Addr.add_lit, h.cell]
 simp [List.getElem?_eq_getElem hj]

section
variable {P : Program} (w : World)
end

end Go.Proofs.Ytojcdmgcbgpdmaa.L4

namespace Go.Proofs.Ytojcdmgcbgpdmaa.L4
open Go.ChangeShapes Go.WideShapes Go.ChangeAt Go.RowKit Mem Sl Ex L2
set_option maxHeartbeats 2000000 in
theorem array_eq (x0 x1 x2 x3 x4 x5 y0 y1 y2 y3 y4 y5 : Int) (w : World) :
  (Op.equalIn 10000 190 (.agg #[.int .u8 x0, .int .u8 x1, .int .u8 x2, .int .u8 x3, .int .u8 x4, .int .u8 x5]) (.agg #[.int .u8 y0, .int .u8 y1, .int .u8 y2, .int .u8 y3, .int .u8 y4, .int .u8 y5])).run Try.prog w = .ok (decide ([x0, x1, x2, x3, x4, x5] = [y0, y1, y2, y3, y4, y5])) w := by
 obtain ⟨i0, hi, hz0, hz1, hz2⟩ := infoOf _ _ _ _ info8
 have hu : Try.prog.underlying 190 = some (.array 6 5) := Try.underlying190
 rw [show (10000 : Nat) = 9998 + 1 + 1 from rfl, run_equalIn_array w (9998 + 1) _ _ hu hi, show List.range 6 = [0, 1, 2, 3, 4, 5] from rfl, show Try.prog.cellsOf 5 = 1 by kernel_rfl]
 have he : ∀ (a b : Int) (w : World), (Op.equalIn (9998 + 1) 5 (.int .u8 a) (.int .u8 b)).run Try.prog w = .ok (a == b) w := fun a b w => run_equalIn_int w 9998 5 .u8 .u8 a b Try.underlying5
 simp [Op.eqItems, he, go_sem]
 (repeat' split) <;> simp_all
end Go.Proofs.Ytojcdmgcbgpdmaa.L4

