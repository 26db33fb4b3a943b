/-
  What the law FnExactScopeOf needs, laid by my program lawpack.py, part 2: the texts L9Sh, VString, Shelf, L9Ii, one behind the other; each begins with its own words.
-/
import Derived.Test.YtojcdmgcbgpdmaaFnExactScopeOfP1
set_option linter.unusedSimpArgs false
set_option linter.unusedVariables false
set_option maxRecDepth 100000
set_option linter.unusedSimpArgs false
namespace Go.Proofs.Ytojcdmgcbgpdmaa.L9
open V L6
open L4 (K isK cmpK)
open L5 (F isR isN string_geq)
open Go.Op (bytesLess)
open Go.ChangeShapes Go.WideShapes Go.ChangeAt Go.RowKit Mem Sl Ex L2 Sv Bag
theorem infoT : ∃ i, Try.prog.info? 9 = some i ∧ i.zero = some (.string ⟨#[]⟩) ∧ i.size = 1 ∧ i.bytes = 16 := Ex.infoOf _ _ _ _ (by kernel_rfl)
def cT (ns : List L9s.T) : List Value := ns.map fun n => .string ⟨n.toArray⟩
@[simp] theorem cT_length (ns : List L9s.T) : (cT ns).length = ns.length := List.length_map ..
theorem cT_append (a b : List L9s.T) : cT (a ++ b) = cT a ++ cT b := List.map_append
theorem cT_one (b : ByteArray) : [Value.string b] = cT [b.data.toList] := by simp [cT]
theorem one_str (ns : List L9s.T) : ∀ u ∈ cT ns, u.oneCell' = true := fun u hu => by
 obtain ⟨n, _, rfl⟩ := List.mem_map.1 hu
 rfl
theorem one_str1 (b : ByteArray) : ∀ u ∈ [Value.string b], u.oneCell' = true := fun u hu => by rw [List.mem_singleton] at hu; rw [hu]; rfl
def rowT (a : Option Addr) (c : Nat) (ns : List L9s.T) : RowS := ⟨9, 1, a, c, ns.length, cT ns⟩
def GaveNS (w : World) (ns : List L9s.T) (e : Ending) (w' : World) : Prop :=
 ∃ (a : Option Addr) (c : Nat), e = .returned (.slice a ns.length c) ∧ BagOwn w' w.heap.size [rowT a c ns] ∧ Below w.heap.size w w'
def nmO (l : List X_Op) : List L9s.T := l.map fun o => o.f_Store.data.toList
theorem nmO_len (l : List X_Op) : (nmO l).length = l.length := List.length_map ..
theorem nm_take {l : List X_Op} {k : Nat} {o : X_Op} (h : l[k]? = some o) : (nmO l).take (k + 1) = (nmO l).take k ++ [o.f_Store.data.toList] := by
 rw [List.take_add_one]
 unfold nmO
 rw [List.getElem?_map, h]
 rfl
theorem readsT_head {w : World} {B : Nat} {a : Option Addr} {ns : List L9s.T} (h : Reads w B a (cT ns)) (k : Nat) : Reads w B a (cT (ns.take k)) := fun j hj => by
 have hj' : j < (cT ns).length := by simp at hj ⊢; omega
 obtain ⟨ad, e, hb, hc⟩ := h j hj'
 exact ⟨ad, e, hb, by rw [hc]; simp [cT]⟩
theorem readsT_rest {w : World} {B g : Nat} {ns : List L9s.T} (h : Reads w B (some ⟨g, 0, none⟩) (cT ns)) (k : Nat) : Reads w B (some ⟨g, k, none⟩) (cT (ns.drop k)) := by
 have h9 : Reads w B (some (Addr.add ⟨g, 0, none⟩ k)) (cT (ns.drop k)) := fun j hj => by
  have hj' : k + j < (cT ns).length := by simp at hj ⊢; omega
  obtain ⟨ad, e, hb, hc⟩ := h (k + j) hj'
  injection e with e
  subst e
  exact ⟨_, rfl, by rw [add_block]; exact hb, by rw [add_add, hc]; simp [cT]⟩
 rwa [Addr.add_lit, Nat.zero_add] at h9
theorem readsT_at {w : World} {B : Nat} {a : Option Addr} {ns : List L9s.T} (h : Reads w B a (cT ns)) (j : Nat) (hj : j < ns.length) : ∃ ad, a = some ad ∧ w.cell? (ad.add j) = some (.string ⟨ns[j].toArray⟩) := by
 obtain ⟨ad, e, hb, hc⟩ := h j (by simpa using hj)
 exact ⟨ad, e, by rw [hc]; simp [cT]⟩
theorem readsT_cell {w : World} {B : Nat} {ad : Addr} {ns : List L9s.T} (h : Reads w B (some ad) (cT ns)) (j : Nat) (t : ByteArray) (hj : (cT ns)[j]? = some (.string t)) : w.cell? (ad.add j) = some (.string t) := by
 obtain ⟨h1, h2⟩ := List.getElem?_eq_some_iff.1 hj
 obtain ⟨ad', e, hb, hc⟩ := h j h1
 injection e with e
 subst e
 rw [hc, h2]

set_option maxHeartbeats 8000000 in
theorem specScopeOf_any (a : Option Addr) (c : Nat) (os : List Y_Op) (hl : os.length ≤ 1048576) (hf : ∀ o ∈ coS_Op os, FitO o) (w : World) (hr : Reads w w.heap.size a (os.flatMap cl_Op)) (hx : RowsRd w w.heap.size (rws_Op os)) :
  Calls Try.prog 51 #[.slice a os.length c] w (GaveNS w (L9s.scopeN (nmO (coS_Op os)))) := by
 have HR := Lib.hid (fun w' (h : Below w.heap.size w w') => hr.below h)
 have HX := Lib.hid (fun w' (h : Below w.heap.size w w') => (hx.below h).more h.size)
 have HF := Lib.hid hf
 obtain ⟨N, hN⟩ : ∃ n, n = os.length := ⟨_, rfl⟩
 rw [← hN] at hl ⊢
 have hl' : (N : Int) ≤ 1048576 := by omega
 have HN := Lib.hid hN
 clear hN hr hx hf
 obtain ⟨iT, hi1, hi2, hi3, hi4⟩ := infoT
 have HIT := Lib.hid (And.intro hi1 (And.intro hi2 (And.intro hi3 hi4)))
 clear hi1 hi2 hi3 hi4
 have HSL := Lib.hid (show (coS_Op os).length = N from by rw [coS_len, HN.out])
 have S1 := Lib.hid (show Sl.Sep w w [] from Sl.Sep.start w)
 go_enter Try.func51, Try.ntmps51
 go_upto_region 2 with fail
 have S2 := Lib.hid (show Sl.Sep w _ [Sv.ownV 9 1 (some ⟨w.heap.size, 0, none⟩) 0 0 (cT [])] from Sv.push_own S1.out ((Below.refl _ _).alloc (Nat.le_refl _) _) (OwnV.madeAt w 9 1 0 w.heap.size #[] rfl (Nat.le_refl _) rfl (by decide)))
 clear S1
 obtain ⟨g1, hg⟩ : ∃ g', g' = w.heap.size := ⟨_, rfl⟩
 rw [← hg] at S2 ⊢
 clear hg
 generalize w.alloc (.cells #[] 9) = w1 at S2 ⊢
 go_wp2_with fail
 go_loopw [3, 4] (fun v i wr => ∃ (k m : Nat) (A : Option Addr) (C : Nat) (ns : List L9s.T), k ≤ N ∧ i = .int .i64 k ∧ v = .slice A m C ∧ m ≤ k ∧ Hid ((m = ns.length ∧ ns = L9s.scopeN ((nmO (coS_Op os)).take k)) ∧ Sl.Sep w wr [Sv.ownV 9 1 A C m (cT ns)])) (fun _ i _ => N - (intOf i).toNat)
 case atStart => exact ⟨0, 0, _, _, [], Nat.zero_le _, rfl, rfl, Nat.le_refl _, And.intro ⟨rfl, rfl⟩ S2.out⟩
 case round =>
  obtain ⟨k, m, A, C, ns, hk, rfl, rfl, hmk, hrel⟩ := hrel
  have HCO := Lib.hid hrel.out.1
  have S40 := Lib.hid hrel.out.2
  clear hrel S2
  have HML := Lib.hid HCO.out.1
  by_cases hlt : (k : Int) < (N : Int)
  ·
   skip
   have hkl : k < os.length := by have := HN.out; omega
   obtain ⟨x, hx⟩ : ∃ x, os[k]? = some x := ⟨_, List.getElem?_eq_getElem hkl⟩
   obtain ⟨oad, e'⟩ := el_some cl_Op_len (by decide) (HR.out _ S40.out.old) hkl
   subst e'
   have hro := fun w' (h : Below w.heap.size w w') => rdOs (HX.out w' h) hx
   have hrr := fun w' (h : Below w.heap.size w w') => rdO (rdOs (HX.out w' h) hx)
   obtain ⟨kd, st, ⟨kk, kn, kt⟩, ⟨ra, rc, rl⟩, fd⟩ := x
   have HK := Lib.hid (fun w' (h : Below w.heap.size w w') => el7 cl_Op_len (HR.out _ h) hx rfl)
   dsimp only at HK hrr
   have HRO := Lib.hid hro
   have HRR := Lib.hid hrr
   have HC := Lib.hid (show (coS_Op os)[k]? = some (⟨kd, st, ⟨kk, kn, kt⟩, rl, fd⟩ : X_Op) from coS_at hx)
   have HFO := Lib.hid (HF.out _ (List.mem_of_getElem? HC.out))
   clear hx hrr hro
   have HT := Lib.hid (show L9s.scopeN ((nmO (coS_Op os)).take (k + 1)) = L9s.insN ns st.data.toList from by rw [nm_take HC.out, L9s.fold_snoc, ← HCO.out.2])
   have HAL := Lib.hid (L9s.atN_le st.data.toList ns)
   obtain ⟨f0, f1, f2, f3, f4, f5, f6⟩ := HK.out _ S40.out.old
   go_wp2_with fail
   go_loopw [5] (fun v wr2 => ∃ j : Nat, j ≤ m ∧ v = .int .i64 j ∧ Hid (j ≤ L9s.atN ns st.data.toList ∧ Sl.Sep w wr2 [Sv.ownV 9 1 A C m (cT ns)])) (fun v _ => m - (intOf v).toNat)
   case atStart => exact ⟨0, Nat.zero_le _, rfl, And.intro (Nat.zero_le _) S40.out⟩
   case round =>
    clear f0 f1 f2 f3 f4 f5 f6
    obtain ⟨j, hjm, rfl, hrel⟩ := hrel
    have HJ := Lib.hid hrel.out.1
    have S41 := Lib.hid hrel.out.2
    clear hrel S40
    have hjn : j ≤ ns.length := by have := HML.out; omega
    by_cases hjl : j = m
    ·
     subst hjl
     obtain ⟨f0, f1, f2, f3, f4, f5, f6⟩ := HK.out _ S41.out.old
     go_upto_region 6 with fail
     clear f0 f1 f2 f3 f4 f5 f6
     refine wp_region_held_drew (S := (fun w' => (w'.cell? (oad.add (k * 7)) = some (.int .i64 kd) ∧ w'.cell? (⟨(oad.add (k * 7)).block, (oad.add (k * 7)).off + 1, none⟩) = some (.string st) ∧ w'.cell? (⟨(oad.add (k * 7)).block, (oad.add (k * 7)).off + 2, none⟩) = some (.int .i64 kk) ∧ w'.cell? (⟨(oad.add (k * 7)).block, (oad.add (k * 7)).off + 3, none⟩) = some (.int .i64 kn) ∧ w'.cell? (⟨(oad.add (k * 7)).block, (oad.add (k * 7)).off + 4, none⟩) = some (.string kt) ∧ w'.cell? (⟨(oad.add (k * 7)).block, (oad.add (k * 7)).off + 5, none⟩) = some (.slice ra rl.length rc) ∧ w'.cell? (⟨(oad.add (k * 7)).block, (oad.add (k * 7)).off + 6, none⟩) = some (.string fd)))) (by kernel_rfl) (HK.out _ (Bag.drew1 S41.out).old) (fun hS => ?_)
     have S42 := Lib.hid (Bag.drew1 S41.out)
     clear S41
     generalize World.drew _ = w2 at hS S42 ⊢
     refine tk 0 rfl ?_
     try simp only [zp0, zp1, zp2, zp3, zp4]
     refine tk 1 rfl ?_
     try simp only [zp0, zp1, zp2, zp3, zp4]
     refine tk 2 rfl ?_
     try simp only [zp0, zp1, zp2, zp3, zp4]
     refine tk 3 rfl ?_
     try simp only [zp0, zp1, zp2, zp3, zp4]
     refine tk 4 rfl ?_
     try simp only [zp0, zp1, zp2, zp3, zp4]
     refine sk 5 rfl ?_
     try simp only [zp0, zp1, zp2, zp3, zp4]
     refine sk 6 rfl ?_
     try simp only [zp0, zp1, zp2, zp3, zp4]
     refine sk 7 rfl ?_
     try simp only [zp0, zp1, zp2, zp3, zp4]
     refine sk 8 rfl ?_
     try simp only [zp0, zp1, zp2, zp3, zp4]
     refine sk 9 rfl ?_
     try simp only [zp0, zp1, zp2, zp3, zp4]
     refine sk 10 rfl ?_
     try simp only [zp0, zp1, zp2, zp3, zp4]
     refine sk 11 rfl ?_
     try simp only [zp0, zp1, zp2, zp3, zp4]
     refine sk 12 rfl ?_
     try simp only [zp0, zp1, zp2, zp3, zp4]
     refine sk 13 rfl ?_
     try simp only [zp0, zp1, zp2, zp3, zp4]
     refine sk 14 rfl ?_
     try simp only [zp0, zp1, zp2, zp3, zp4]
     refine tk 15 rfl ?_
     try simp only [zp0, zp1, zp2, zp3, zp4]
     refine wpAnyH_done (by kernel_rfl) ?_ _
     obtain ⟨f0, f1, f2, f3, f4, f5, f6⟩ := HK.out _ S42.out.old
     have HAT := Lib.hid (show L9s.atN ns st.data.toList = j from by have := HAL.out; have := HML.out; have := HJ.out; omega)
     have HINS := Lib.hid (show L9s.insN ns st.data.toList = ns.take j ++ st.data.toList :: ns.drop j from by rw [L9s.insN_at, HAT.out, if_neg (by rw [List.getElem?_eq_none (by have := HML.out; omega)]; simp)])
     go_upto_region 8 with fail
     clear f0 f1 f2 f3 f4 f5 f6
     refine wp_region_held_drew (S := (fun w' => (w'.cell? (oad.add (k * 7)) = some (.int .i64 kd) ∧ w'.cell? (⟨(oad.add (k * 7)).block, (oad.add (k * 7)).off + 1, none⟩) = some (.string st) ∧ w'.cell? (⟨(oad.add (k * 7)).block, (oad.add (k * 7)).off + 2, none⟩) = some (.int .i64 kk) ∧ w'.cell? (⟨(oad.add (k * 7)).block, (oad.add (k * 7)).off + 3, none⟩) = some (.int .i64 kn) ∧ w'.cell? (⟨(oad.add (k * 7)).block, (oad.add (k * 7)).off + 4, none⟩) = some (.string kt) ∧ w'.cell? (⟨(oad.add (k * 7)).block, (oad.add (k * 7)).off + 5, none⟩) = some (.slice ra rl.length rc) ∧ w'.cell? (⟨(oad.add (k * 7)).block, (oad.add (k * 7)).off + 6, none⟩) = some (.string fd)))) (by kernel_rfl) (HK.out _ (Bag.drew1 S42.out).old) (fun hS => ?_)
     have S43 := Lib.hid (Bag.drew1 S42.out)
     clear S42
     generalize World.drew _ = w3 at hS S43 ⊢
     refine tk 0 rfl ?_
     try simp only [zp0, zp1, zp2, zp3, zp4]
     refine tk 1 rfl ?_
     try simp only [zp0, zp1, zp2, zp3, zp4]
     refine tk 2 rfl ?_
     try simp only [zp0, zp1, zp2, zp3, zp4]
     refine tk 3 rfl ?_
     try simp only [zp0, zp1, zp2, zp3, zp4]
     refine tk 4 rfl ?_
     try simp only [zp0, zp1, zp2, zp3, zp4]
     refine sk 5 rfl ?_
     try simp only [zp0, zp1, zp2, zp3, zp4]
     refine sk 6 rfl ?_
     try simp only [zp0, zp1, zp2, zp3, zp4]
     refine sk 7 rfl ?_
     try simp only [zp0, zp1, zp2, zp3, zp4]
     refine sk 8 rfl ?_
     try simp only [zp0, zp1, zp2, zp3, zp4]
     refine sk 9 rfl ?_
     try simp only [zp0, zp1, zp2, zp3, zp4]
     refine sk 10 rfl ?_
     try simp only [zp0, zp1, zp2, zp3, zp4]
     refine sk 11 rfl ?_
     try simp only [zp0, zp1, zp2, zp3, zp4]
     refine sk 12 rfl ?_
     try simp only [zp0, zp1, zp2, zp3, zp4]
     refine sk 13 rfl ?_
     try simp only [zp0, zp1, zp2, zp3, zp4]
     refine sk 14 rfl ?_
     try simp only [zp0, zp1, zp2, zp3, zp4]
     refine tk 15 rfl ?_
     try simp only [zp0, zp1, zp2, zp3, zp4]
     refine wpAnyH_done (by kernel_rfl) ?_ _
     obtain ⟨f0, f1, f2, f3, f4, f5, f6⟩ := HK.out _ S43.out.old
     have hcap : j ≤ C := by have := (Sv.own_at S43.out 0 rfl).cap; omega
     have hck : (j : Int) ≤ (C : Int) := by omega
     have hjm' : (j : Int) ≤ (j : Int) := by omega
     have hmc : (j : Int) ≤ (C : Int) := by omega
     have hm6 : j ≤ 1048576 := by omega
     clear f0 f1 f2 f3 f4 f5 f6
     obtain ⟨f0, f1, f2, f3, f4, f5, f6⟩ := HK.out _ S43.out.old
     go_upto_region 9 with fail
     clear f0 f1 f2 f3 f4 f5 f6
     refine wp_region_held_drew (S := (fun w' => (w'.cell? (oad.add (k * 7)) = some (.int .i64 kd) ∧ w'.cell? (⟨(oad.add (k * 7)).block, (oad.add (k * 7)).off + 1, none⟩) = some (.string st) ∧ w'.cell? (⟨(oad.add (k * 7)).block, (oad.add (k * 7)).off + 2, none⟩) = some (.int .i64 kk) ∧ w'.cell? (⟨(oad.add (k * 7)).block, (oad.add (k * 7)).off + 3, none⟩) = some (.int .i64 kn) ∧ w'.cell? (⟨(oad.add (k * 7)).block, (oad.add (k * 7)).off + 4, none⟩) = some (.string kt) ∧ w'.cell? (⟨(oad.add (k * 7)).block, (oad.add (k * 7)).off + 5, none⟩) = some (.slice ra rl.length rc) ∧ w'.cell? (⟨(oad.add (k * 7)).block, (oad.add (k * 7)).off + 6, none⟩) = some (.string fd)))) (by kernel_rfl) (HK.out _ (Bag.drew1 S43.out).old) (fun hS => ?_)
     have S44 := Lib.hid (Bag.drew1 S43.out)
     clear S43
     generalize World.drew _ = w4 at hS S44 ⊢
     refine tk 1 rfl ?_
     try simp only [zp0, zp1, zp2, zp3, zp4]
     refine tk 2 rfl ?_
     try simp only [zp0, zp1, zp2, zp3, zp4]
     refine tk 3 rfl ?_
     try simp only [zp0, zp1, zp2, zp3, zp4]
     refine tk 5 rfl ?_
     try simp only [zp0, zp1, zp2, zp3, zp4]
     refine tk 6 rfl ?_
     try simp only [zp0, zp1, zp2, zp3, zp4]
     refine tk 7 rfl ?_
     try simp only [zp0, zp1, zp2, zp3, zp4]
     refine tk 8 rfl ?_
     try simp only [zp0, zp1, zp2, zp3, zp4]
     refine tk 9 rfl ?_
     try simp only [zp0, zp1, zp2, zp3, zp4]
     refine tk 12 rfl ?_
     try simp only [zp0, zp1, zp2, zp3, zp4]
     refine tk 13 rfl ?_
     try simp only [zp0, zp1, zp2, zp3, zp4]
     refine tk 14 rfl ?_
     try simp only [zp0, zp1, zp2, zp3, zp4]
     refine wpAnyH_ready (rs := [0, 10]) (by kernel_rfl) (by simp) ?_
     refine Reg.cons_op (i := 0) rfl (fun K hK => ?_) ?_
     ·
      skip
      go_simp
      have S45 := Lib.hid (show Sl.Sep w _ [_, Sv.ownV 9 1 (some ⟨w4.heap.size, 0, none⟩) 0 0 (cT [])] from Sv.push_own S44.out ((Below.refl _ _).alloc (Nat.le_refl _) _) (OwnV.madeAt w4 9 1 0 w4.heap.size #[] rfl (Nat.le_refl _) rfl (by decide)))
      clear S44
      obtain ⟨g2, hg⟩ : ∃ g', g' = w4.heap.size := ⟨_, rfl⟩
      rw [← hg] at S45 ⊢
      clear hg
      generalize w4.alloc (.cells #[] 9) = w5 at S45 ⊢
      refine hK.out _ _ (HK.out _ S45.out.old) (fun hS => ?_)
      clear hK K
      try simp only [zp0, zp1, zp2, zp3, zp4]
      refine wpAnyH_ready (rs := [4, 10]) (by kernel_rfl) (by simp) ?_
      refine Reg.cons_op (i := 4) rfl (fun K hK => ?_) ?_
      ·
       skip
       refine Sv.step_append_s S45.out 1 rfl rfl _ _ 80 (by rfl) iT (.string ⟨#[]⟩) 16 Try.underlying80 HIT.out.1 HIT.out.2.1 HIT.out.2.2.1 HIT.out.2.2.2 rfl (by omega) _ (by rfl) rfl _ _ j _ _ (cT (ns.take j)) (by rfl) rfl (readsT_head (Sv.own_at S45.out 0 rfl).reads j) (by rw [cT_length, List.length_take, Nat.min_eq_left hjn]; omega) (one_str _) (by unfold maxLen; omega) (by omega) ?_
       intro a3' c3' w6 hA
       have S46 := Lib.hid (show Sl.Sep w _ [_, Sv.ownV 9 1 a3' c3' (0 + j) (cT [] ++ (cT (ns.take j)))] from hA)
       clear S45
       clear hA
       have S47 := Lib.hid (show Sl.Sep w _ [_, Sv.ownV 9 1 a3' c3' j (cT [] ++ (cT (ns.take j)))] from (by have h := S46.out; rw [Nat.zero_add] at h; exact h))
       clear S46
       refine hK.out _ _ (HK.out _ S47.out.old) (fun hS => ?_)
       clear hK K
       try simp only [zp0, zp1, zp2, zp3, zp4]
       refine Reg.one_op (i := 10) rfl (by kernel_rfl) (fun K hK => ?_)
       go_simp
       have S48 := Lib.hid (show Sl.Sep w _ [_, _, Sv.ownV 9 1 (some ⟨w6.heap.size, 0, none⟩) 1 1 ([.string st])] from Sv.push_own S47.out ((Below.refl _ _).alloc (Nat.le_refl _) _) (OwnV.madeAt w6 9 1 1 w6.heap.size #[.string st] rfl (Nat.le_refl _) rfl (by decide)))
       clear S47
       obtain ⟨g4, hg⟩ : ∃ g', g' = w6.heap.size := ⟨_, rfl⟩
       rw [← hg] at S48 ⊢
       clear hg
       generalize w6.alloc (.cells #[.string st] 9) = w7 at S48 ⊢
       refine hK.out _ _ (HK.out _ S48.out.old) (fun hS => ?_)
       clear hK K
       try simp only [zp0, zp1, zp2, zp3, zp4]
       refine Reg.one_op (i := 11) rfl (by kernel_rfl) (fun K hK => ?_)
       refine Sv.step_append_s S48.out 1 rfl rfl _ _ 80 (by rfl) iT (.string ⟨#[]⟩) 16 Try.underlying80 HIT.out.1 HIT.out.2.1 HIT.out.2.2.1 HIT.out.2.2.2 rfl (by omega) _ (by rfl) (by first | rfl | exact Nat.zero_add _) _ _ 1 _ _ ([.string st]) (by rfl) rfl ((Sv.own_at S48.out 2 rfl).reads) rfl (one_str1 _) (by unfold maxLen; omega) (by omega) ?_
       intro a5' c5' w8 hA
       have S49 := Lib.hid (show Sl.Sep w _ [_, Sv.ownV 9 1 a5' c5' (j + 1) (cT [] ++ (cT (ns.take j)) ++ ([.string st])), Sv.ownV 9 1 (some ⟨g4, 0, none⟩) 1 1 ([.string st])] from hA)
       clear S48
       clear hA
       refine hK.out _ _ (HK.out _ S49.out.old) (fun hS => ?_)
       clear hK K
       try simp only [zp0, zp1, zp2, zp3, zp4]
       refine Reg.one_op (i := 15) rfl (by kernel_rfl) (fun K hK => ?_)
       refine Sv.step_append_s S49.out 1 rfl rfl _ _ 80 (by rfl) iT (.string ⟨#[]⟩) 16 Try.underlying80 HIT.out.1 HIT.out.2.1 HIT.out.2.2.1 HIT.out.2.2.2 rfl (by omega) _ (by rfl) rfl _ _ 0 _ _ (cT []) (by rfl) rfl (Sl.Reads.nil (B := 0)) rfl (one_str _) (by unfold maxLen; omega) (by omega) ?_
       intro a6' c6' w9 hA
       have S50 := Lib.hid (show Sl.Sep w _ [_, Sv.ownV 9 1 a6' c6' (j + 1 + 0) (cT [] ++ (cT (ns.take j)) ++ ([.string st]) ++ (cT [])), _] from hA)
       clear S49
       clear hA
       refine hK.out _ _ (HK.out _ S50.out.old) (fun hS => ?_)
       clear hK K
       try simp only [zp0, zp1, zp2, zp3, zp4]
       refine tk 16 rfl ?_
       try simp only [zp0, zp1, zp2, zp3, zp4]
       refine wpAnyH_done (by kernel_rfl) ?_ _
       obtain ⟨f0, f1, f2, f3, f4, f5, f6⟩ := HK.out _ S50.out.old
       clear f0 f1 f2 f3 f4 f5 f6
       have S51 := Lib.hid (show Sl.Sep w _ [_] from Bag.take S50.out [1] (by rfl) (by decide))
       clear S50
       have HZ := Lib.hid (show cT (ns.take j ++ st.data.toList :: ns.drop j) = cT [] ++ (cT (ns.take j)) ++ ([.string st]) ++ (cT []) from by rw [cT_append, show st.data.toList :: ns.drop j = [st.data.toList] ++ ns.drop j from rfl, cT_append, ← cT_one, List.drop_of_length_le (show ns.length ≤ j by have := HML.out; omega)]; simp [cT])
       have hlz : (ns.take j ++ st.data.toList :: ns.drop j).length = j + 1 + 0 := by rw [List.length_append, List.length_cons, List.length_take, List.length_drop]; have := HML.out; omega
       go_wp2_with fail
       go_roundw
       case rel => exact ⟨k + 1, j + 1 + 0, a6', c6', (ns.take j ++ st.data.toList :: ns.drop j), by omega, by go_num, by first | rfl | go_num, by omega, And.intro ⟨hlz.symm, by rw [HT.out, HINS.out]⟩ (by rw [HZ.out]; exact S51.out)⟩
       case measure => simp [intOf]; omega
      refine Reg.cons_op (i := 10) rfl (fun K hK => ?_) ?_
      ·
       skip
       go_simp
       have S46 := Lib.hid (show Sl.Sep w _ [_, Sv.ownV 9 1 (some ⟨g2, 0, none⟩) 0 0 (cT []), Sv.ownV 9 1 (some ⟨w5.heap.size, 0, none⟩) 1 1 ([.string st])] from Sv.push_own S45.out ((Below.refl _ _).alloc (Nat.le_refl _) _) (OwnV.madeAt w5 9 1 1 w5.heap.size #[.string st] rfl (Nat.le_refl _) rfl (by decide)))
       clear S45
       obtain ⟨g3, hg⟩ : ∃ g', g' = w5.heap.size := ⟨_, rfl⟩
       rw [← hg] at S46 ⊢
       clear hg
       generalize w5.alloc (.cells #[.string st] 9) = w6 at S46 ⊢
       refine hK.out _ _ (HK.out _ S46.out.old) (fun hS => ?_)
       clear hK K
       try simp only [zp0, zp1, zp2, zp3, zp4]
       refine Reg.one_op (i := 4) rfl (by kernel_rfl) (fun K hK => ?_)
       refine Sv.step_append_s S46.out 1 rfl rfl _ _ 80 (by rfl) iT (.string ⟨#[]⟩) 16 Try.underlying80 HIT.out.1 HIT.out.2.1 HIT.out.2.2.1 HIT.out.2.2.2 rfl (by omega) _ (by rfl) rfl _ _ j _ _ (cT (ns.take j)) (by rfl) rfl (readsT_head (Sv.own_at S46.out 0 rfl).reads j) (by rw [cT_length, List.length_take, Nat.min_eq_left hjn]; omega) (one_str _) (by unfold maxLen; omega) (by omega) ?_
       intro a4' c4' w7 hA
       have S47 := Lib.hid (show Sl.Sep w _ [_, Sv.ownV 9 1 a4' c4' (0 + j) (cT [] ++ (cT (ns.take j))), Sv.ownV 9 1 (some ⟨g3, 0, none⟩) 1 1 ([.string st])] from hA)
       clear S46
       clear hA
       have S48 := Lib.hid (show Sl.Sep w _ [_, Sv.ownV 9 1 a4' c4' j (cT [] ++ (cT (ns.take j))), _] from (by have h := S47.out; rw [Nat.zero_add] at h; exact h))
       clear S47
       refine hK.out _ _ (HK.out _ S48.out.old) (fun hS => ?_)
       clear hK K
       try simp only [zp0, zp1, zp2, zp3, zp4]
       refine Reg.one_op (i := 11) rfl (by kernel_rfl) (fun K hK => ?_)
       refine Sv.step_append_s S48.out 1 rfl rfl _ _ 80 (by rfl) iT (.string ⟨#[]⟩) 16 Try.underlying80 HIT.out.1 HIT.out.2.1 HIT.out.2.2.1 HIT.out.2.2.2 rfl (by omega) _ (by rfl) (by first | rfl | exact Nat.zero_add _) _ _ 1 _ _ ([.string st]) (by rfl) rfl ((Sv.own_at S48.out 2 rfl).reads) rfl (one_str1 _) (by unfold maxLen; omega) (by omega) ?_
       intro a5' c5' w8 hA
       have S49 := Lib.hid (show Sl.Sep w _ [_, Sv.ownV 9 1 a5' c5' (j + 1) (cT [] ++ (cT (ns.take j)) ++ ([.string st])), _] from hA)
       clear S48
       clear hA
       refine hK.out _ _ (HK.out _ S49.out.old) (fun hS => ?_)
       clear hK K
       try simp only [zp0, zp1, zp2, zp3, zp4]
       refine Reg.one_op (i := 15) rfl (by kernel_rfl) (fun K hK => ?_)
       refine Sv.step_append_s S49.out 1 rfl rfl _ _ 80 (by rfl) iT (.string ⟨#[]⟩) 16 Try.underlying80 HIT.out.1 HIT.out.2.1 HIT.out.2.2.1 HIT.out.2.2.2 rfl (by omega) _ (by rfl) rfl _ _ 0 _ _ (cT []) (by rfl) rfl (Sl.Reads.nil (B := 0)) rfl (one_str _) (by unfold maxLen; omega) (by omega) ?_
       intro a6' c6' w9 hA
       have S50 := Lib.hid (show Sl.Sep w _ [_, Sv.ownV 9 1 a6' c6' (j + 1 + 0) (cT [] ++ (cT (ns.take j)) ++ ([.string st]) ++ (cT [])), _] from hA)
       clear S49
       clear hA
       refine hK.out _ _ (HK.out _ S50.out.old) (fun hS => ?_)
       clear hK K
       try simp only [zp0, zp1, zp2, zp3, zp4]
       refine tk 16 rfl ?_
       try simp only [zp0, zp1, zp2, zp3, zp4]
       refine wpAnyH_done (by kernel_rfl) ?_ _
       obtain ⟨f0, f1, f2, f3, f4, f5, f6⟩ := HK.out _ S50.out.old
       clear f0 f1 f2 f3 f4 f5 f6
       have S51 := Lib.hid (show Sl.Sep w _ [_] from Bag.take S50.out [1] (by rfl) (by decide))
       clear S50
       have HZ := Lib.hid (show cT (ns.take j ++ st.data.toList :: ns.drop j) = cT [] ++ (cT (ns.take j)) ++ ([.string st]) ++ (cT []) from by rw [cT_append, show st.data.toList :: ns.drop j = [st.data.toList] ++ ns.drop j from rfl, cT_append, ← cT_one, List.drop_of_length_le (show ns.length ≤ j by have := HML.out; omega)]; simp [cT])
       have hlz : (ns.take j ++ st.data.toList :: ns.drop j).length = j + 1 + 0 := by rw [List.length_append, List.length_cons, List.length_take, List.length_drop]; have := HML.out; omega
       go_wp2_with fail
       go_roundw
       case rel => exact ⟨k + 1, j + 1 + 0, a6', c6', (ns.take j ++ st.data.toList :: ns.drop j), by omega, by go_num, by first | rfl | go_num, by omega, And.intro ⟨hlz.symm, by rw [HT.out, HINS.out]⟩ (by rw [HZ.out]; exact S51.out)⟩
       case measure => simp [intOf]; omega
      exact AllReadyH.nil
     refine Reg.cons_op (i := 10) rfl (fun K hK => ?_) ?_
     ·
      skip
      go_simp
      have S45 := Lib.hid (show Sl.Sep w _ [_, Sv.ownV 9 1 (some ⟨w4.heap.size, 0, none⟩) 1 1 ([.string st])] from Sv.push_own S44.out ((Below.refl _ _).alloc (Nat.le_refl _) _) (OwnV.madeAt w4 9 1 1 w4.heap.size #[.string st] rfl (Nat.le_refl _) rfl (by decide)))
      clear S44
      obtain ⟨g2, hg⟩ : ∃ g', g' = w4.heap.size := ⟨_, rfl⟩
      rw [← hg] at S45 ⊢
      clear hg
      generalize w4.alloc (.cells #[.string st] 9) = w5 at S45 ⊢
      refine hK.out _ _ (HK.out _ S45.out.old) (fun hS => ?_)
      clear hK K
      try simp only [zp0, zp1, zp2, zp3, zp4]
      refine Reg.one_op (i := 0) rfl (by kernel_rfl) (fun K hK => ?_)
      go_simp
      have S46 := Lib.hid (show Sl.Sep w _ [_, Sv.ownV 9 1 (some ⟨g2, 0, none⟩) 1 1 ([.string st]), Sv.ownV 9 1 (some ⟨w5.heap.size, 0, none⟩) 0 0 (cT [])] from Sv.push_own S45.out ((Below.refl _ _).alloc (Nat.le_refl _) _) (OwnV.madeAt w5 9 1 0 w5.heap.size #[] rfl (Nat.le_refl _) rfl (by decide)))
      clear S45
      obtain ⟨g3, hg⟩ : ∃ g', g' = w5.heap.size := ⟨_, rfl⟩
      rw [← hg] at S46 ⊢
      clear hg
      generalize w5.alloc (.cells #[] 9) = w6 at S46 ⊢
      refine hK.out _ _ (HK.out _ S46.out.old) (fun hS => ?_)
      clear hK K
      try simp only [zp0, zp1, zp2, zp3, zp4]
      refine Reg.one_op (i := 4) rfl (by kernel_rfl) (fun K hK => ?_)
      refine Sv.step_append_s S46.out 2 rfl rfl _ _ 80 (by rfl) iT (.string ⟨#[]⟩) 16 Try.underlying80 HIT.out.1 HIT.out.2.1 HIT.out.2.2.1 HIT.out.2.2.2 rfl (by omega) _ (by rfl) rfl _ _ j _ _ (cT (ns.take j)) (by rfl) rfl (readsT_head (Sv.own_at S46.out 0 rfl).reads j) (by rw [cT_length, List.length_take, Nat.min_eq_left hjn]; omega) (one_str _) (by unfold maxLen; omega) (by omega) ?_
      intro a4' c4' w7 hA
      have S47 := Lib.hid (show Sl.Sep w _ [_, _, Sv.ownV 9 1 a4' c4' (0 + j) (cT [] ++ (cT (ns.take j)))] from hA)
      clear S46
      clear hA
      have S48 := Lib.hid (show Sl.Sep w _ [_, _, Sv.ownV 9 1 a4' c4' j (cT [] ++ (cT (ns.take j)))] from (by have h := S47.out; rw [Nat.zero_add] at h; exact h))
      clear S47
      refine hK.out _ _ (HK.out _ S48.out.old) (fun hS => ?_)
      clear hK K
      try simp only [zp0, zp1, zp2, zp3, zp4]
      refine Reg.one_op (i := 11) rfl (by kernel_rfl) (fun K hK => ?_)
      refine Sv.step_append_s S48.out 2 rfl rfl _ _ 80 (by rfl) iT (.string ⟨#[]⟩) 16 Try.underlying80 HIT.out.1 HIT.out.2.1 HIT.out.2.2.1 HIT.out.2.2.2 rfl (by omega) _ (by rfl) (by first | rfl | exact Nat.zero_add _) _ _ 1 _ _ ([.string st]) (by rfl) rfl ((Sv.own_at S48.out 1 rfl).reads) rfl (one_str1 _) (by unfold maxLen; omega) (by omega) ?_
      intro a5' c5' w8 hA
      have S49 := Lib.hid (show Sl.Sep w _ [_, _, Sv.ownV 9 1 a5' c5' (j + 1) (cT [] ++ (cT (ns.take j)) ++ ([.string st]))] from hA)
      clear S48
      clear hA
      refine hK.out _ _ (HK.out _ S49.out.old) (fun hS => ?_)
      clear hK K
      try simp only [zp0, zp1, zp2, zp3, zp4]
      refine Reg.one_op (i := 15) rfl (by kernel_rfl) (fun K hK => ?_)
      refine Sv.step_append_s S49.out 2 rfl rfl _ _ 80 (by rfl) iT (.string ⟨#[]⟩) 16 Try.underlying80 HIT.out.1 HIT.out.2.1 HIT.out.2.2.1 HIT.out.2.2.2 rfl (by omega) _ (by rfl) rfl _ _ 0 _ _ (cT []) (by rfl) rfl (Sl.Reads.nil (B := 0)) rfl (one_str _) (by unfold maxLen; omega) (by omega) ?_
      intro a6' c6' w9 hA
      have S50 := Lib.hid (show Sl.Sep w _ [_, _, Sv.ownV 9 1 a6' c6' (j + 1 + 0) (cT [] ++ (cT (ns.take j)) ++ ([.string st]) ++ (cT []))] from hA)
      clear S49
      clear hA
      refine hK.out _ _ (HK.out _ S50.out.old) (fun hS => ?_)
      clear hK K
      try simp only [zp0, zp1, zp2, zp3, zp4]
      refine tk 16 rfl ?_
      try simp only [zp0, zp1, zp2, zp3, zp4]
      refine wpAnyH_done (by kernel_rfl) ?_ _
      obtain ⟨f0, f1, f2, f3, f4, f5, f6⟩ := HK.out _ S50.out.old
      clear f0 f1 f2 f3 f4 f5 f6
      have S51 := Lib.hid (show Sl.Sep w _ [_] from Bag.take S50.out [2] (by rfl) (by decide))
      clear S50
      have HZ := Lib.hid (show cT (ns.take j ++ st.data.toList :: ns.drop j) = cT [] ++ (cT (ns.take j)) ++ ([.string st]) ++ (cT []) from by rw [cT_append, show st.data.toList :: ns.drop j = [st.data.toList] ++ ns.drop j from rfl, cT_append, ← cT_one, List.drop_of_length_le (show ns.length ≤ j by have := HML.out; omega)]; simp [cT])
      have hlz : (ns.take j ++ st.data.toList :: ns.drop j).length = j + 1 + 0 := by rw [List.length_append, List.length_cons, List.length_take, List.length_drop]; have := HML.out; omega
      go_wp2_with fail
      go_roundw
      case rel => exact ⟨k + 1, j + 1 + 0, a6', c6', (ns.take j ++ st.data.toList :: ns.drop j), by omega, by go_num, by first | rfl | go_num, by omega, And.intro ⟨hlz.symm, by rw [HT.out, HINS.out]⟩ (by rw [HZ.out]; exact S51.out)⟩
      case measure => simp [intOf]; omega
     exact AllReadyH.nil
    ·
     skip
     have hjl2 : j < ns.length := by have := HML.out; omega
     have hmj : ¬ m = j := by omega
     have hmj2 : ¬ (m : Int) = (j : Int) := by omega
     have hmj3 : ¬ m - j = 0 := by omega
     obtain ⟨ad2, e2, _⟩ := readsT_at (Sv.own_at S41.out 0 rfl).reads j hjl2
     subst e2
     obtain ⟨t, ht⟩ : ∃ t : ByteArray, t = ⟨ns[j].toArray⟩ := ⟨_, rfl⟩
     have HX2 := Lib.hid (show (cT ns)[j]? = some (.string t) from by rw [ht, List.getElem?_eq_getElem (by simpa using hjl2)]; simp [cT])
     have HTL := Lib.hid (show t.toList = ns[j] from by rw [ht, ByteArray.toList_eq])
     clear ht
     have HSTL := Lib.hid (show st.toList = st.data.toList from ByteArray.toList_eq ..)
     have hjm2 : (j : Int) < (m : Int) := by omega
     obtain ⟨bo, hbo⟩ : ∃ b, Op.bytesLess t.toList st.toList = b := ⟨_, rfl⟩
     have HBO := Lib.hid (show decide (ns[j] < st.data.toList) = bo from by rw [← hbo, Go.Proofs.bytesLess_eq, HTL.out, HSTL.out])
     obtain ⟨f0, f1, f2, f3, f4, f5, f6⟩ := HK.out _ S41.out.old
     have f7 : World.cell? _ (ad2.add j) = some (.string t) := readsT_cell (Sv.own_at S41.out 0 rfl).reads j _ HX2.out
     go_upto_region 6 with fail
     clear f0 f1 f2 f3 f4 f5 f6 f7
     refine wp_region_held_drew (S := (fun w' => (w'.cell? (oad.add (k * 7)) = some (.int .i64 kd) ∧ w'.cell? (⟨(oad.add (k * 7)).block, (oad.add (k * 7)).off + 1, none⟩) = some (.string st) ∧ w'.cell? (⟨(oad.add (k * 7)).block, (oad.add (k * 7)).off + 2, none⟩) = some (.int .i64 kk) ∧ w'.cell? (⟨(oad.add (k * 7)).block, (oad.add (k * 7)).off + 3, none⟩) = some (.int .i64 kn) ∧ w'.cell? (⟨(oad.add (k * 7)).block, (oad.add (k * 7)).off + 4, none⟩) = some (.string kt) ∧ w'.cell? (⟨(oad.add (k * 7)).block, (oad.add (k * 7)).off + 5, none⟩) = some (.slice ra rl.length rc) ∧ w'.cell? (⟨(oad.add (k * 7)).block, (oad.add (k * 7)).off + 6, none⟩) = some (.string fd)) ∧ w'.cell? (ad2.add j) = some (.string t))) (by kernel_rfl) ⟨HK.out _ (Bag.drew1 S41.out).old, readsT_cell (Sv.own_at (Bag.drew1 S41.out) 0 rfl).reads j _ HX2.out⟩ (fun hS => ?_)
     have S42 := Lib.hid (Bag.drew1 S41.out)
     clear S41
     generalize World.drew _ = w2 at hS S42 ⊢
     refine tk 0 rfl ?_
     try simp only [zp0, zp1, zp2, zp3, zp4]
     refine tk 1 rfl ?_
     try simp only [zp0, zp1, zp2, zp3, zp4]
     refine tk 2 rfl ?_
     try simp only [zp0, zp1, zp2, zp3, zp4]
     refine tk 3 rfl ?_
     try simp only [zp0, zp1, zp2, zp3, zp4]
     refine tk 4 rfl ?_
     try simp only [zp0, zp1, zp2, zp3, zp4]
     refine tk 5 rfl ?_
     try simp only [zp0, zp1, zp2, zp3, zp4]
     refine tk 6 rfl ?_
     try simp only [zp0, zp1, zp2, zp3, zp4]
     refine tk 7 rfl ?_
     try simp only [zp0, zp1, zp2, zp3, zp4]
     refine tk 8 rfl ?_
     try simp only [zp0, zp1, zp2, zp3, zp4]
     refine tk 9 rfl ?_
     try simp only [zp0, zp1, zp2, zp3, zp4]
     refine tk 10 rfl ?_
     try simp only [zp0, zp1, zp2, zp3, zp4]
     refine tk 11 rfl ?_
     try simp only [zp0, zp1, zp2, zp3, zp4]
     refine tk 12 rfl ?_
     try simp only [zp0, zp1, zp2, zp3, zp4]
     refine tk 13 rfl ?_
     try simp only [zp0, zp1, zp2, zp3, zp4]
     refine tk 14 rfl ?_
     try simp only [zp0, zp1, zp2, zp3, zp4]
     refine tk 15 rfl ?_
     try simp only [zp0, zp1, zp2, zp3, zp4]
     refine wpAnyH_done (by kernel_rfl) ?_ _
     obtain ⟨f0, f1, f2, f3, f4, f5, f6⟩ := HK.out _ S42.out.old
     have f7 : World.cell? _ (ad2.add j) = some (.string t) := readsT_cell (Sv.own_at S42.out 0 rfl).reads j _ HX2.out
     cases bo with
     | true =>
      have hj2 : j + 1 ≤ L9s.atN ns st.data.toList := (L9s.atN_step st.data.toList ns j HJ.out hjl2).1 (of_decide_eq_true HBO.out)
      go_wp2_with fail
      go_roundw
      case rel => exact ⟨j + 1, by omega, by go_num, And.intro hj2 S42.out⟩
      case measure => simp [intOf]; omega
     | false =>
      have HAT := Lib.hid (show L9s.atN ns st.data.toList = j from by have h1 := HJ.out; have h2 : ¬ j < L9s.atN ns st.data.toList := fun h => absurd ((L9s.atN_step st.data.toList ns j HJ.out hjl2).2 h) (of_decide_eq_false HBO.out); omega)
      obtain ⟨be, hbe⟩ : ∃ b, (t.toList == st.toList) = b := ⟨_, rfl⟩
      have HBE := Lib.hid (show decide (ns[j] = st.data.toList) = be from by rw [← hbe, HTL.out, HSTL.out]; exact Bool.eq_iff_iff.2 (by simp))
      clear f0 f1 f2 f3 f4 f5 f6 f7
      obtain ⟨f0, f1, f2, f3, f4, f5, f6⟩ := HK.out _ S42.out.old
      have f7 : World.cell? _ (ad2.add j) = some (.string t) := readsT_cell (Sv.own_at S42.out 0 rfl).reads j _ HX2.out
      go_upto_region 8 with fail
      clear f0 f1 f2 f3 f4 f5 f6 f7
      refine wp_region_held_drew (S := (fun w' => (w'.cell? (oad.add (k * 7)) = some (.int .i64 kd) ∧ w'.cell? (⟨(oad.add (k * 7)).block, (oad.add (k * 7)).off + 1, none⟩) = some (.string st) ∧ w'.cell? (⟨(oad.add (k * 7)).block, (oad.add (k * 7)).off + 2, none⟩) = some (.int .i64 kk) ∧ w'.cell? (⟨(oad.add (k * 7)).block, (oad.add (k * 7)).off + 3, none⟩) = some (.int .i64 kn) ∧ w'.cell? (⟨(oad.add (k * 7)).block, (oad.add (k * 7)).off + 4, none⟩) = some (.string kt) ∧ w'.cell? (⟨(oad.add (k * 7)).block, (oad.add (k * 7)).off + 5, none⟩) = some (.slice ra rl.length rc) ∧ w'.cell? (⟨(oad.add (k * 7)).block, (oad.add (k * 7)).off + 6, none⟩) = some (.string fd)) ∧ w'.cell? (ad2.add j) = some (.string t))) (by kernel_rfl) ⟨HK.out _ (Bag.drew1 S42.out).old, readsT_cell (Sv.own_at (Bag.drew1 S42.out) 0 rfl).reads j _ HX2.out⟩ (fun hS => ?_)
      have S43 := Lib.hid (Bag.drew1 S42.out)
      clear S42
      generalize World.drew _ = w3 at hS S43 ⊢
      refine tk 0 rfl ?_
      try simp only [zp0, zp1, zp2, zp3, zp4]
      refine tk 1 rfl ?_
      try simp only [zp0, zp1, zp2, zp3, zp4]
      refine tk 2 rfl ?_
      try simp only [zp0, zp1, zp2, zp3, zp4]
      refine tk 3 rfl ?_
      try simp only [zp0, zp1, zp2, zp3, zp4]
      refine tk 4 rfl ?_
      try simp only [zp0, zp1, zp2, zp3, zp4]
      refine tk 5 rfl ?_
      try simp only [zp0, zp1, zp2, zp3, zp4]
      refine tk 6 rfl ?_
      try simp only [zp0, zp1, zp2, zp3, zp4]
      refine tk 7 rfl ?_
      try simp only [zp0, zp1, zp2, zp3, zp4]
      refine tk 8 rfl ?_
      try simp only [zp0, zp1, zp2, zp3, zp4]
      refine tk 9 rfl ?_
      try simp only [zp0, zp1, zp2, zp3, zp4]
      refine tk 10 rfl ?_
      try simp only [zp0, zp1, zp2, zp3, zp4]
      refine tk 11 rfl ?_
      try simp only [zp0, zp1, zp2, zp3, zp4]
      refine tk 12 rfl ?_
      try simp only [zp0, zp1, zp2, zp3, zp4]
      refine tk 13 rfl ?_
      try simp only [zp0, zp1, zp2, zp3, zp4]
      refine tk 14 rfl ?_
      try simp only [zp0, zp1, zp2, zp3, zp4]
      refine tk 15 rfl ?_
      try simp only [zp0, zp1, zp2, zp3, zp4]
      refine wpAnyH_done (by kernel_rfl) ?_ _
      obtain ⟨f0, f1, f2, f3, f4, f5, f6⟩ := HK.out _ S43.out.old
      have f7 : World.cell? _ (ad2.add j) = some (.string t) := readsT_cell (Sv.own_at S43.out 0 rfl).reads j _ HX2.out
      cases be with
      | true =>
       have HINS := Lib.hid (show L9s.insN ns st.data.toList = ns from by rw [L9s.insN_at, HAT.out, if_pos (by rw [List.getElem?_eq_getElem hjl2, of_decide_eq_true HBE.out])])
       go_wp2_with fail
       go_roundw
       case rel => exact ⟨k + 1, m, _, _, ns, by omega, by go_num, rfl, by omega, And.intro ⟨HML.out, by rw [HT.out, HINS.out]⟩ S43.out⟩
       case measure => simp [intOf]; omega
      | false =>
       have HINS := Lib.hid (show L9s.insN ns st.data.toList = ns.take j ++ st.data.toList :: ns.drop j from by rw [L9s.insN_at, HAT.out, if_neg (by rw [List.getElem?_eq_getElem hjl2]; intro h; exact absurd (Option.some.inj h) (of_decide_eq_false HBE.out))])
       obtain ⟨g9, hg9⟩ : ∃ g, ad2 = ⟨g, 0, none⟩ := by
        rcases (Sv.own_at S43.out 0 rfl).form with ⟨_, h0, _⟩ | ⟨g, e, _⟩
        ·
         omega
        ·
         injection e with e; exact ⟨g, e⟩
       subst hg9
       have hcap : m ≤ C := by have := (Sv.own_at S43.out 0 rfl).cap; omega
       have hck : (j : Int) ≤ (C : Int) := by omega
       have hjm' : (j : Int) ≤ (m : Int) := by omega
       have hmc : (m : Int) ≤ (C : Int) := by omega
       have hm6 : m ≤ 1048576 := by omega
       have hCj : ¬ C = j := by omega
       have hCj2 : ¬ j = C := by omega
       have hCj3 : ¬ C - j = 0 := by omega
       have hCj4 : ¬ (C : Int) = (j : Int) := by omega
       have hCj5 : (j : Int) < (C : Int) := by omega
       have hCj6 : j < C := by omega
       have hCj7 : ¬ C ≤ j := by omega
       clear f0 f1 f2 f3 f4 f5 f6 f7
       obtain ⟨f0, f1, f2, f3, f4, f5, f6⟩ := HK.out _ S43.out.old
       go_upto_region 9 with fail
       clear f0 f1 f2 f3 f4 f5 f6
       refine wp_region_held_drew (S := (fun w' => (w'.cell? (oad.add (k * 7)) = some (.int .i64 kd) ∧ w'.cell? (⟨(oad.add (k * 7)).block, (oad.add (k * 7)).off + 1, none⟩) = some (.string st) ∧ w'.cell? (⟨(oad.add (k * 7)).block, (oad.add (k * 7)).off + 2, none⟩) = some (.int .i64 kk) ∧ w'.cell? (⟨(oad.add (k * 7)).block, (oad.add (k * 7)).off + 3, none⟩) = some (.int .i64 kn) ∧ w'.cell? (⟨(oad.add (k * 7)).block, (oad.add (k * 7)).off + 4, none⟩) = some (.string kt) ∧ w'.cell? (⟨(oad.add (k * 7)).block, (oad.add (k * 7)).off + 5, none⟩) = some (.slice ra rl.length rc) ∧ w'.cell? (⟨(oad.add (k * 7)).block, (oad.add (k * 7)).off + 6, none⟩) = some (.string fd)))) (by kernel_rfl) (HK.out _ (Bag.drew1 S43.out).old) (fun hS => ?_)
       have S44 := Lib.hid (Bag.drew1 S43.out)
       clear S43
       generalize World.drew _ = w4 at hS S44 ⊢
       refine tk 1 rfl ?_
       try simp only [zp0, zp1, zp2, zp3, zp4]
       refine tk 2 rfl ?_
       try simp only [zp0, zp1, zp2, zp3, zp4]
       refine tk 3 rfl ?_
       try simp only [zp0, zp1, zp2, zp3, zp4]
       refine tk 5 rfl ?_
       try simp only [zp0, zp1, zp2, zp3, zp4]
       refine tk 6 rfl ?_
       try simp only [zp0, zp1, zp2, zp3, zp4]
       refine tk 7 rfl ?_
       try simp only [zp0, zp1, zp2, zp3, zp4]
       refine tk 8 rfl ?_
       try simp only [zp0, zp1, zp2, zp3, zp4]
       refine tk 9 rfl ?_
       try simp only [zp0, zp1, zp2, zp3, zp4]
       refine tk 12 rfl ?_
       try simp only [zp0, zp1, zp2, zp3, zp4]
       refine tk 13 rfl ?_
       try simp only [zp0, zp1, zp2, zp3, zp4]
       refine tk 14 rfl ?_
       try simp only [zp0, zp1, zp2, zp3, zp4]
       refine wpAnyH_ready (rs := [0, 10]) (by kernel_rfl) (by simp) ?_
       refine Reg.cons_op (i := 0) rfl (fun K hK => ?_) ?_
       ·
        skip
        go_simp
        have S45 := Lib.hid (show Sl.Sep w _ [_, Sv.ownV 9 1 (some ⟨w4.heap.size, 0, none⟩) 0 0 (cT [])] from Sv.push_own S44.out ((Below.refl _ _).alloc (Nat.le_refl _) _) (OwnV.madeAt w4 9 1 0 w4.heap.size #[] rfl (Nat.le_refl _) rfl (by decide)))
        clear S44
        obtain ⟨g2, hg⟩ : ∃ g', g' = w4.heap.size := ⟨_, rfl⟩
        rw [← hg] at S45 ⊢
        clear hg
        generalize w4.alloc (.cells #[] 9) = w5 at S45 ⊢
        refine hK.out _ _ (HK.out _ S45.out.old) (fun hS => ?_)
        clear hK K
        try simp only [zp0, zp1, zp2, zp3, zp4]
        refine wpAnyH_ready (rs := [4, 10]) (by kernel_rfl) (by simp) ?_
        refine Reg.cons_op (i := 4) rfl (fun K hK => ?_) ?_
        ·
         skip
         refine Sv.step_append_s S45.out 1 rfl rfl _ _ 80 (by rfl) iT (.string ⟨#[]⟩) 16 Try.underlying80 HIT.out.1 HIT.out.2.1 HIT.out.2.2.1 HIT.out.2.2.2 rfl (by omega) _ (by rfl) rfl _ _ j _ _ (cT (ns.take j)) (by rfl) rfl (readsT_head (Sv.own_at S45.out 0 rfl).reads j) (by rw [cT_length, List.length_take, Nat.min_eq_left hjn]; omega) (one_str _) (by unfold maxLen; omega) (by omega) ?_
         intro a3' c3' w6 hA
         have S46 := Lib.hid (show Sl.Sep w _ [_, Sv.ownV 9 1 a3' c3' (0 + j) (cT [] ++ (cT (ns.take j)))] from hA)
         clear S45
         clear hA
         have S47 := Lib.hid (show Sl.Sep w _ [_, Sv.ownV 9 1 a3' c3' j (cT [] ++ (cT (ns.take j)))] from (by have h := S46.out; rw [Nat.zero_add] at h; exact h))
         clear S46
         refine hK.out _ _ (HK.out _ S47.out.old) (fun hS => ?_)
         clear hK K
         try simp only [zp0, zp1, zp2, zp3, zp4]
         refine Reg.one_op (i := 10) rfl (by kernel_rfl) (fun K hK => ?_)
         go_simp
         have S48 := Lib.hid (show Sl.Sep w _ [_, _, Sv.ownV 9 1 (some ⟨w6.heap.size, 0, none⟩) 1 1 ([.string st])] from Sv.push_own S47.out ((Below.refl _ _).alloc (Nat.le_refl _) _) (OwnV.madeAt w6 9 1 1 w6.heap.size #[.string st] rfl (Nat.le_refl _) rfl (by decide)))
         clear S47
         obtain ⟨g4, hg⟩ : ∃ g', g' = w6.heap.size := ⟨_, rfl⟩
         rw [← hg] at S48 ⊢
         clear hg
         generalize w6.alloc (.cells #[.string st] 9) = w7 at S48 ⊢
         refine hK.out _ _ (HK.out _ S48.out.old) (fun hS => ?_)
         clear hK K
         try simp only [zp0, zp1, zp2, zp3, zp4]
         refine Reg.one_op (i := 11) rfl (by kernel_rfl) (fun K hK => ?_)
         refine Sv.step_append_s S48.out 1 rfl rfl _ _ 80 (by rfl) iT (.string ⟨#[]⟩) 16 Try.underlying80 HIT.out.1 HIT.out.2.1 HIT.out.2.2.1 HIT.out.2.2.2 rfl (by omega) _ (by rfl) (by first | rfl | exact Nat.zero_add _) _ _ 1 _ _ ([.string st]) (by rfl) rfl ((Sv.own_at S48.out 2 rfl).reads) rfl (one_str1 _) (by unfold maxLen; omega) (by omega) ?_
         intro a5' c5' w8 hA
         have S49 := Lib.hid (show Sl.Sep w _ [_, Sv.ownV 9 1 a5' c5' (j + 1) (cT [] ++ (cT (ns.take j)) ++ ([.string st])), Sv.ownV 9 1 (some ⟨g4, 0, none⟩) 1 1 ([.string st])] from hA)
         clear S48
         clear hA
         refine hK.out _ _ (HK.out _ S49.out.old) (fun hS => ?_)
         clear hK K
         try simp only [zp0, zp1, zp2, zp3, zp4]
         refine Reg.one_op (i := 15) rfl (by kernel_rfl) (fun K hK => ?_)
         refine Sv.step_append_s S49.out 1 rfl rfl _ _ 80 (by rfl) iT (.string ⟨#[]⟩) 16 Try.underlying80 HIT.out.1 HIT.out.2.1 HIT.out.2.2.1 HIT.out.2.2.2 rfl (by omega) _ (by rfl) rfl _ _ (m - j) _ _ (cT (ns.drop j)) (by rfl) rfl (readsT_rest (Sv.own_at S49.out 0 rfl).reads j) (by rw [cT_length, List.length_drop]; have := HML.out; omega) (one_str _) (by unfold maxLen; omega) (by omega) ?_
         intro a6' c6' w9 hA
         have S50 := Lib.hid (show Sl.Sep w _ [_, Sv.ownV 9 1 a6' c6' (j + 1 + (m - j)) (cT [] ++ (cT (ns.take j)) ++ ([.string st]) ++ (cT (ns.drop j))), _] from hA)
         clear S49
         clear hA
         refine hK.out _ _ (HK.out _ S50.out.old) (fun hS => ?_)
         clear hK K
         try simp only [zp0, zp1, zp2, zp3, zp4]
         refine tk 16 rfl ?_
         try simp only [zp0, zp1, zp2, zp3, zp4]
         refine wpAnyH_done (by kernel_rfl) ?_ _
         obtain ⟨f0, f1, f2, f3, f4, f5, f6⟩ := HK.out _ S50.out.old
         clear f0 f1 f2 f3 f4 f5 f6
         have S51 := Lib.hid (show Sl.Sep w _ [_] from Bag.take S50.out [1] (by rfl) (by decide))
         clear S50
         have HZ := Lib.hid (show cT (ns.take j ++ st.data.toList :: ns.drop j) = cT [] ++ (cT (ns.take j)) ++ ([.string st]) ++ (cT (ns.drop j)) from by rw [cT_append, show st.data.toList :: ns.drop j = [st.data.toList] ++ ns.drop j from rfl, cT_append, ← cT_one]; simp [cT])
         have hlz : (ns.take j ++ st.data.toList :: ns.drop j).length = j + 1 + (m - j) := by rw [List.length_append, List.length_cons, List.length_take, List.length_drop]; have := HML.out; omega
         go_wp2_with fail
         go_roundw
         case rel => exact ⟨k + 1, j + 1 + (m - j), a6', c6', (ns.take j ++ st.data.toList :: ns.drop j), by omega, by go_num, by first | rfl | go_num, by omega, And.intro ⟨hlz.symm, by rw [HT.out, HINS.out]⟩ (by rw [HZ.out]; exact S51.out)⟩
         case measure => simp [intOf]; omega
        refine Reg.cons_op (i := 10) rfl (fun K hK => ?_) ?_
        ·
         skip
         go_simp
         have S46 := Lib.hid (show Sl.Sep w _ [_, Sv.ownV 9 1 (some ⟨g2, 0, none⟩) 0 0 (cT []), Sv.ownV 9 1 (some ⟨w5.heap.size, 0, none⟩) 1 1 ([.string st])] from Sv.push_own S45.out ((Below.refl _ _).alloc (Nat.le_refl _) _) (OwnV.madeAt w5 9 1 1 w5.heap.size #[.string st] rfl (Nat.le_refl _) rfl (by decide)))
         clear S45
         obtain ⟨g3, hg⟩ : ∃ g', g' = w5.heap.size := ⟨_, rfl⟩
         rw [← hg] at S46 ⊢
         clear hg
         generalize w5.alloc (.cells #[.string st] 9) = w6 at S46 ⊢
         refine hK.out _ _ (HK.out _ S46.out.old) (fun hS => ?_)
         clear hK K
         try simp only [zp0, zp1, zp2, zp3, zp4]
         refine Reg.one_op (i := 4) rfl (by kernel_rfl) (fun K hK => ?_)
         refine Sv.step_append_s S46.out 1 rfl rfl _ _ 80 (by rfl) iT (.string ⟨#[]⟩) 16 Try.underlying80 HIT.out.1 HIT.out.2.1 HIT.out.2.2.1 HIT.out.2.2.2 rfl (by omega) _ (by rfl) rfl _ _ j _ _ (cT (ns.take j)) (by rfl) rfl (readsT_head (Sv.own_at S46.out 0 rfl).reads j) (by rw [cT_length, List.length_take, Nat.min_eq_left hjn]; omega) (one_str _) (by unfold maxLen; omega) (by omega) ?_
         intro a4' c4' w7 hA
         have S47 := Lib.hid (show Sl.Sep w _ [_, Sv.ownV 9 1 a4' c4' (0 + j) (cT [] ++ (cT (ns.take j))), Sv.ownV 9 1 (some ⟨g3, 0, none⟩) 1 1 ([.string st])] from hA)
         clear S46
         clear hA
         have S48 := Lib.hid (show Sl.Sep w _ [_, Sv.ownV 9 1 a4' c4' j (cT [] ++ (cT (ns.take j))), _] from (by have h := S47.out; rw [Nat.zero_add] at h; exact h))
         clear S47
         refine hK.out _ _ (HK.out _ S48.out.old) (fun hS => ?_)
         clear hK K
         try simp only [zp0, zp1, zp2, zp3, zp4]
         refine Reg.one_op (i := 11) rfl (by kernel_rfl) (fun K hK => ?_)
         refine Sv.step_append_s S48.out 1 rfl rfl _ _ 80 (by rfl) iT (.string ⟨#[]⟩) 16 Try.underlying80 HIT.out.1 HIT.out.2.1 HIT.out.2.2.1 HIT.out.2.2.2 rfl (by omega) _ (by rfl) (by first | rfl | exact Nat.zero_add _) _ _ 1 _ _ ([.string st]) (by rfl) rfl ((Sv.own_at S48.out 2 rfl).reads) rfl (one_str1 _) (by unfold maxLen; omega) (by omega) ?_
         intro a5' c5' w8 hA
         have S49 := Lib.hid (show Sl.Sep w _ [_, Sv.ownV 9 1 a5' c5' (j + 1) (cT [] ++ (cT (ns.take j)) ++ ([.string st])), _] from hA)
         clear S48
         clear hA
         refine hK.out _ _ (HK.out _ S49.out.old) (fun hS => ?_)
         clear hK K
         try simp only [zp0, zp1, zp2, zp3, zp4]
         refine Reg.one_op (i := 15) rfl (by kernel_rfl) (fun K hK => ?_)
         refine Sv.step_append_s S49.out 1 rfl rfl _ _ 80 (by rfl) iT (.string ⟨#[]⟩) 16 Try.underlying80 HIT.out.1 HIT.out.2.1 HIT.out.2.2.1 HIT.out.2.2.2 rfl (by omega) _ (by rfl) rfl _ _ (m - j) _ _ (cT (ns.drop j)) (by rfl) rfl (readsT_rest (Sv.own_at S49.out 0 rfl).reads j) (by rw [cT_length, List.length_drop]; have := HML.out; omega) (one_str _) (by unfold maxLen; omega) (by omega) ?_
         intro a6' c6' w9 hA
         have S50 := Lib.hid (show Sl.Sep w _ [_, Sv.ownV 9 1 a6' c6' (j + 1 + (m - j)) (cT [] ++ (cT (ns.take j)) ++ ([.string st]) ++ (cT (ns.drop j))), _] from hA)
         clear S49
         clear hA
         refine hK.out _ _ (HK.out _ S50.out.old) (fun hS => ?_)
         clear hK K
         try simp only [zp0, zp1, zp2, zp3, zp4]
         refine tk 16 rfl ?_
         try simp only [zp0, zp1, zp2, zp3, zp4]
         refine wpAnyH_done (by kernel_rfl) ?_ _
         obtain ⟨f0, f1, f2, f3, f4, f5, f6⟩ := HK.out _ S50.out.old
         clear f0 f1 f2 f3 f4 f5 f6
         have S51 := Lib.hid (show Sl.Sep w _ [_] from Bag.take S50.out [1] (by rfl) (by decide))
         clear S50
         have HZ := Lib.hid (show cT (ns.take j ++ st.data.toList :: ns.drop j) = cT [] ++ (cT (ns.take j)) ++ ([.string st]) ++ (cT (ns.drop j)) from by rw [cT_append, show st.data.toList :: ns.drop j = [st.data.toList] ++ ns.drop j from rfl, cT_append, ← cT_one]; simp [cT])
         have hlz : (ns.take j ++ st.data.toList :: ns.drop j).length = j + 1 + (m - j) := by rw [List.length_append, List.length_cons, List.length_take, List.length_drop]; have := HML.out; omega
         go_wp2_with fail
         go_roundw
         case rel => exact ⟨k + 1, j + 1 + (m - j), a6', c6', (ns.take j ++ st.data.toList :: ns.drop j), by omega, by go_num, by first | rfl | go_num, by omega, And.intro ⟨hlz.symm, by rw [HT.out, HINS.out]⟩ (by rw [HZ.out]; exact S51.out)⟩
         case measure => simp [intOf]; omega
        exact AllReadyH.nil
       refine Reg.cons_op (i := 10) rfl (fun K hK => ?_) ?_
       ·
        skip
        go_simp
        have S45 := Lib.hid (show Sl.Sep w _ [_, Sv.ownV 9 1 (some ⟨w4.heap.size, 0, none⟩) 1 1 ([.string st])] from Sv.push_own S44.out ((Below.refl _ _).alloc (Nat.le_refl _) _) (OwnV.madeAt w4 9 1 1 w4.heap.size #[.string st] rfl (Nat.le_refl _) rfl (by decide)))
        clear S44
        obtain ⟨g2, hg⟩ : ∃ g', g' = w4.heap.size := ⟨_, rfl⟩
        rw [← hg] at S45 ⊢
        clear hg
        generalize w4.alloc (.cells #[.string st] 9) = w5 at S45 ⊢
        refine hK.out _ _ (HK.out _ S45.out.old) (fun hS => ?_)
        clear hK K
        try simp only [zp0, zp1, zp2, zp3, zp4]
        refine Reg.one_op (i := 0) rfl (by kernel_rfl) (fun K hK => ?_)
        go_simp
        have S46 := Lib.hid (show Sl.Sep w _ [_, Sv.ownV 9 1 (some ⟨g2, 0, none⟩) 1 1 ([.string st]), Sv.ownV 9 1 (some ⟨w5.heap.size, 0, none⟩) 0 0 (cT [])] from Sv.push_own S45.out ((Below.refl _ _).alloc (Nat.le_refl _) _) (OwnV.madeAt w5 9 1 0 w5.heap.size #[] rfl (Nat.le_refl _) rfl (by decide)))
        clear S45
        obtain ⟨g3, hg⟩ : ∃ g', g' = w5.heap.size := ⟨_, rfl⟩
        rw [← hg] at S46 ⊢
        clear hg
        generalize w5.alloc (.cells #[] 9) = w6 at S46 ⊢
        refine hK.out _ _ (HK.out _ S46.out.old) (fun hS => ?_)
        clear hK K
        try simp only [zp0, zp1, zp2, zp3, zp4]
        refine Reg.one_op (i := 4) rfl (by kernel_rfl) (fun K hK => ?_)
        refine Sv.step_append_s S46.out 2 rfl rfl _ _ 80 (by rfl) iT (.string ⟨#[]⟩) 16 Try.underlying80 HIT.out.1 HIT.out.2.1 HIT.out.2.2.1 HIT.out.2.2.2 rfl (by omega) _ (by rfl) rfl _ _ j _ _ (cT (ns.take j)) (by rfl) rfl (readsT_head (Sv.own_at S46.out 0 rfl).reads j) (by rw [cT_length, List.length_take, Nat.min_eq_left hjn]; omega) (one_str _) (by unfold maxLen; omega) (by omega) ?_
        intro a4' c4' w7 hA
        have S47 := Lib.hid (show Sl.Sep w _ [_, _, Sv.ownV 9 1 a4' c4' (0 + j) (cT [] ++ (cT (ns.take j)))] from hA)
        clear S46
        clear hA
        have S48 := Lib.hid (show Sl.Sep w _ [_, _, Sv.ownV 9 1 a4' c4' j (cT [] ++ (cT (ns.take j)))] from (by have h := S47.out; rw [Nat.zero_add] at h; exact h))
        clear S47
        refine hK.out _ _ (HK.out _ S48.out.old) (fun hS => ?_)
        clear hK K
        try simp only [zp0, zp1, zp2, zp3, zp4]
        refine Reg.one_op (i := 11) rfl (by kernel_rfl) (fun K hK => ?_)
        refine Sv.step_append_s S48.out 2 rfl rfl _ _ 80 (by rfl) iT (.string ⟨#[]⟩) 16 Try.underlying80 HIT.out.1 HIT.out.2.1 HIT.out.2.2.1 HIT.out.2.2.2 rfl (by omega) _ (by rfl) (by first | rfl | exact Nat.zero_add _) _ _ 1 _ _ ([.string st]) (by rfl) rfl ((Sv.own_at S48.out 1 rfl).reads) rfl (one_str1 _) (by unfold maxLen; omega) (by omega) ?_
        intro a5' c5' w8 hA
        have S49 := Lib.hid (show Sl.Sep w _ [_, _, Sv.ownV 9 1 a5' c5' (j + 1) (cT [] ++ (cT (ns.take j)) ++ ([.string st]))] from hA)
        clear S48
        clear hA
        refine hK.out _ _ (HK.out _ S49.out.old) (fun hS => ?_)
        clear hK K
        try simp only [zp0, zp1, zp2, zp3, zp4]
        refine Reg.one_op (i := 15) rfl (by kernel_rfl) (fun K hK => ?_)
        refine Sv.step_append_s S49.out 2 rfl rfl _ _ 80 (by rfl) iT (.string ⟨#[]⟩) 16 Try.underlying80 HIT.out.1 HIT.out.2.1 HIT.out.2.2.1 HIT.out.2.2.2 rfl (by omega) _ (by rfl) rfl _ _ (m - j) _ _ (cT (ns.drop j)) (by rfl) rfl (readsT_rest (Sv.own_at S49.out 0 rfl).reads j) (by rw [cT_length, List.length_drop]; have := HML.out; omega) (one_str _) (by unfold maxLen; omega) (by omega) ?_
        intro a6' c6' w9 hA
        have S50 := Lib.hid (show Sl.Sep w _ [_, _, Sv.ownV 9 1 a6' c6' (j + 1 + (m - j)) (cT [] ++ (cT (ns.take j)) ++ ([.string st]) ++ (cT (ns.drop j)))] from hA)
        clear S49
        clear hA
        refine hK.out _ _ (HK.out _ S50.out.old) (fun hS => ?_)
        clear hK K
        try simp only [zp0, zp1, zp2, zp3, zp4]
        refine tk 16 rfl ?_
        try simp only [zp0, zp1, zp2, zp3, zp4]
        refine wpAnyH_done (by kernel_rfl) ?_ _
        obtain ⟨f0, f1, f2, f3, f4, f5, f6⟩ := HK.out _ S50.out.old
        clear f0 f1 f2 f3 f4 f5 f6
        have S51 := Lib.hid (show Sl.Sep w _ [_] from Bag.take S50.out [2] (by rfl) (by decide))
        clear S50
        have HZ := Lib.hid (show cT (ns.take j ++ st.data.toList :: ns.drop j) = cT [] ++ (cT (ns.take j)) ++ ([.string st]) ++ (cT (ns.drop j)) from by rw [cT_append, show st.data.toList :: ns.drop j = [st.data.toList] ++ ns.drop j from rfl, cT_append, ← cT_one]; simp [cT])
        have hlz : (ns.take j ++ st.data.toList :: ns.drop j).length = j + 1 + (m - j) := by rw [List.length_append, List.length_cons, List.length_take, List.length_drop]; have := HML.out; omega
        go_wp2_with fail
        go_roundw
        case rel => exact ⟨k + 1, j + 1 + (m - j), a6', c6', (ns.take j ++ st.data.toList :: ns.drop j), by omega, by go_num, by first | rfl | go_num, by omega, And.intro ⟨hlz.symm, by rw [HT.out, HINS.out]⟩ (by rw [HZ.out]; exact S51.out)⟩
        case measure => simp [intOf]; omega
       exact AllReadyH.nil
  ·
   skip
   go_wp2_with fail
   go_ret
   obtain rfl : k = N := by omega
   obtain ⟨hm, hc⟩ := HCO.out
   rw [List.take_of_length_le (show (nmO (coS_Op os)).length ≤ k by rw [nmO_len, HSL.out]; omega)] at hc
   subst hm
   subst hc
   have S90 := Lib.hid (Bag.bag_of_one S40.out 0 (r := rowT A C _) rfl)
   exact ⟨A, C, rfl, Bag.bag_from S90.out 0 rfl, S90.out.old⟩
end Go.Proofs.Ytojcdmgcbgpdmaa.L9

set_option linter.unusedSimpArgs false
namespace Go.Proofs.Ytojcdmgcbgpdmaa.V
open Go.ChangeShapes Go.WideShapes Go.ChangeAt Go.RowKit Mem Sl Sv Bag
open L5 (markT)
structure X_String where
 f_S : ByteArray
def co_String (z : X_String) : X_String := z
def coS_String (xs : List X_String) : List X_String := xs
theorem coS_String_eq (xs : List X_String) : coS_String xs = xs.map co_String := (List.map_id' xs).symm
def cl_String (z : X_String) : List Value := [.string z.f_S]
def rw_String (z : X_String) : List RowS := []
def wt_String (c : X_String) : Nat := c.f_S.size
theorem cl_String_len (z : X_String) : (cl_String z).length = 1 := rfl
def row_String (a : Option Addr) (c : Nat) (xs : List X_String) : RowS := ⟨9, 1, a, c, xs.length, xs.flatMap cl_String⟩
def rws_String (_ : List X_String) : List RowS := []
theorem rws_String_eq (xs : List X_String) : rws_String xs = xs.flatMap rw_String := by
 show [] = _
 induction xs with
 | nil => rfl
 | cons x xs ih => rw [List.flatMap_cons, ← ih]; rfl
def rs_String (a : Option Addr) (c : Nat) (xs : List X_String) : List RowS := row_String a c xs :: rws_String xs
theorem rws_String_app (xs ys : List X_String) : rws_String (xs ++ ys) = rws_String xs ++ rws_String ys := by rw [rws_String_eq, rws_String_eq, rws_String_eq, List.flatMap_append]
def em_String (k : Int) (z : X_String) : X_String := ⟨markT k⟩
def cnt_String (z : X_String) : Nat := 1
theorem cntS_String (z : X_String) : cnt_String z ≤ 64 * (wt_String (co_String z) + 1) := by
 have hw : wt_String (co_String z) = z.f_S.size := by rfl
 unfold cnt_String
 omega
theorem em_String_fp (k : Int) (z : X_String) : (rw_String (em_String k z)).flatMap RowS.fp = (rw_String z).flatMap RowS.fp := rfl
theorem rs_String_fp (a : Option Addr) (c : Nat) (xs : List X_String) (k : Int) : (rs_String a c (mks em_String cnt_String k xs)).flatMap RowS.fp = (rs_String a c xs).flatMap RowS.fp := by
 unfold rs_String
 rw [List.flatMap_cons, List.flatMap_cons, rws_String_eq, rws_String_eq, mks_fp em_String_fp]
 congr 1
 unfold row_String RowS.fp
 cases a <;> rfl
set_option maxHeartbeats 4000000 in
theorem eq_StringS (a a2 : Option Addr) (c c2 : Nat) (xs xs2 : List X_String) (hc : coS_String xs = coS_String xs2) (hf : wsum wt_String (coS_String xs) ≤ 1125899906842624) (w : World) (hr : Reads w w.heap.size a (xs.flatMap cl_String)) (hr2 : Reads w w.heap.size a2 (xs2.flatMap cl_String)) :
  Calls Try.prog 54 #[.slice a xs.length c, .slice a2 xs2.length c2] w fun e w' => e = .returned (.bool true) ∧ Below w.heap.size w w' := by
 have hlen : xs2.length = xs.length := by have h := congrArg List.length hc; rw [coS_String_eq, coS_String_eq, List.length_map, List.length_map] at h; exact h.symm
 have hl : xs.length ≤ 1125899906842624 := by have := wsum_len wt_String (coS_String xs); rw [coS_String_eq, List.length_map] at this; rw [coS_String_eq] at hf; omega
 have HR := Lib.hid (fun w' (h : Below w.heap.size w w') => hr.below h)
 have HR2 := Lib.hid (fun w' (h : Below w.heap.size w w') => hr2.below h)
 have HS := Lib.hid (show xs2 = xs from hc.symm)
 obtain ⟨N, hN⟩ : ∃ n, n = xs.length := ⟨_, rfl⟩
 rw [hlen, ← hN]
 rw [← hN] at hl
 have hl' : (N : Int) ≤ 1125899906842624 := by omega
 have HN := Lib.hid hN
 clear hN hr hr2 hf hc hlen
 have S1 := Lib.hid (show Sl.Sep w w [] from Sl.Sep.start w)
 go_enter Try.func54, Try.ntmps54
 go_wp2_with fail
 go_loopw [5] (fun i wr => ∃ k : Nat, k ≤ N ∧ i = .int .i64 k ∧ Hid (Sl.Sep w wr [])) (fun i _ => N - (intOf i).toNat)
 case atStart => exact ⟨0, Nat.zero_le _, rfl, S1.out⟩
 case round =>
  obtain ⟨k, hk, rfl, hrel⟩ := hrel
  have S2 := Lib.hid hrel.out
  clear hrel S1
  by_cases hlt : (k : Int) < (N : Int)
  ·
   skip
   have hkl : k < xs.length := by have := HN.out; omega
   obtain ⟨x, hx⟩ : ∃ x, xs[k]? = some x := ⟨_, List.getElem?_eq_getElem hkl⟩
   obtain ⟨ad, e'⟩ := el_some cl_String_len (by decide) (HR.out _ S2.out.old) (List.getElem?_eq_some_iff.1 hx).1
   subst e'
   have HK := Lib.hid (fun w' (h : Below w.heap.size w w') => el1 cl_String_len (HR.out _ h) hx rfl)
   have HK := Lib.hid (fun w' (h : Below w.heap.size w w') => (by have h9 := HK.out w' h; rw [Nat.mul_one] at h9; exact h9 : w'.cell? (ad.add k) = some (.string x.f_S)))
   have hx2 : xs2[k]? = some x := by rw [HS.out]; exact hx
   obtain ⟨ad2, e'⟩ := el_some cl_String_len (by decide) (HR2.out _ S2.out.old) (List.getElem?_eq_some_iff.1 hx2).1
   subst e'
   have HK2 := Lib.hid (fun w' (h : Below w.heap.size w w') => el1 cl_String_len (HR2.out _ h) hx2 rfl)
   have HK2 := Lib.hid (fun w' (h : Below w.heap.size w w') => (by have h9 := HK2.out w' h; rw [Nat.mul_one] at h9; exact h9 : w'.cell? (ad2.add k) = some (.string x.f_S)))
   have hss : (x.f_S.toList == x.f_S.toList) = true := by simp
   have hsn : (x.f_S.toList != x.f_S.toList) = false := by simp
   clear hx hx2
   go_upto_region 6 with fail
   refine wp_region_held_drew (S := (fun w' => (w'.cell? (ad.add k) = some (.string x.f_S)) ∧ (w'.cell? (ad2.add k) = some (.string x.f_S)))) (by kernel_rfl) ⟨(And.intro (HK.out _ (Bag.drew1 S2.out).old) trivial).1, (And.intro (HK2.out _ (Bag.drew1 S2.out).old) trivial).1⟩ (fun hS => ?_)
   have S3 := Lib.hid (Bag.drew1 S2.out)
   clear S2
   generalize World.drew _ = w1 at hS S3 ⊢
   refine tk 0 rfl ?_
   try simp only [zp0, zp1, zp2, zp3, zp4]
   refine tk 1 rfl ?_
   try simp only [zp0, zp1, zp2, zp3, zp4]
   refine tk 2 rfl ?_
   try simp only [zp0, zp1, zp2, zp3, zp4]
   refine tk 3 rfl ?_
   try simp only [zp0, zp1, zp2, zp3, zp4]
   refine tk 4 rfl ?_
   try simp only [zp0, zp1, zp2, zp3, zp4]
   refine tk 5 rfl ?_
   try simp only [zp0, zp1, zp2, zp3, zp4]
   refine tk 6 rfl ?_
   try simp only [zp0, zp1, zp2, zp3, zp4]
   refine tk 7 rfl ?_
   try simp only [zp0, zp1, zp2, zp3, zp4]
   refine tk 8 rfl ?_
   try simp only [zp0, zp1, zp2, zp3, zp4]
   refine wpAnyH_done (by kernel_rfl) ?_ _
   have f0 := HK.out _ S3.out.old
   have f1 := HK2.out _ S3.out.old
   go_wp2_with fail
   go_roundw
   case rel => exact ⟨k + 1, by omega, by go_num, S3.out⟩
   case measure => simp [intOf]; omega
  ·
   skip
   go_wp2_with fail
   go_ret
   exact ⟨rfl, S2.out.old⟩
set_option maxHeartbeats 8000000 in
theorem mark_StringS_sep (a : Option Addr) (c : Nat) (xs : List X_String) (k : Int) (W w : World) (S : Sl.Sep W w [bag (rs_String a c xs), Run.restL W w (bag (rs_String a c xs)).fp]) (hf : wsum wt_String (coS_String xs) ≤ 1125899906842624) (hk0 : 0 < k) (hk1 : k + (fsum cnt_String xs : Int) ≤ 2305843009213693952) :
  Calls Try.prog 57 #[.slice a xs.length c, .int .i64 k] w fun e w' => e = .returned (.int .i64 (k + (fsum cnt_String xs : Int))) ∧ Sl.Sep W w' [bag (rs_String a c (mks em_String cnt_String k xs)), Run.restL W w (bag (rs_String a c xs)).fp] := by
 have HF := Lib.hid hf
 have hl : xs.length ≤ 1125899906842624 := by have := wsum_len wt_String (coS_String xs); rw [coS_String_eq, List.length_map] at this; rw [coS_String_eq] at hf; omega
 clear hf
 obtain ⟨fps, hfps⟩ : ∃ f, f = (bag (rs_String a c xs)).fp := ⟨_, rfl⟩
 rw [← hfps] at S ⊢
 clear hfps
 rcases (S.is 0 _ rfl).own (row_String a c xs) (List.mem_cons_self ..) |>.form with ⟨ha, hn0, -, hc0⟩ | ⟨g, hg, -, -, hnc, -⟩
 ·
  have ha' : a = none := ha
  have hc' : c = 0 := hc0
  have hx : xs = [] := List.eq_nil_of_length_eq_zero hn0
  subst hx
  have H := Lib.hid S
  clear S HF hk1
  go_enter Try.func57, Try.ntmps57
  go_wp2_with fail
  refine wp_loop_rounds 1 ?_
  rw [rounds_succ]
  go_wp2_with fail
  go_ret
  exact ⟨by rw [fsum_nil]; first | rfl | (refine congrArg (fun i => Ending.returned (.int .i64 i)) ?_; omega), H.out⟩
 have hg' : a = some ⟨g, 0, none⟩ := hg
 subst hg'
 obtain ⟨N, hN⟩ : ∃ n, n = xs.length := ⟨_, rfl⟩
 rw [← hN] at hl ⊢
 have hl' : (N : Int) ≤ 1125899906842624 := by omega
 have HN := Lib.hid hN
 have HK1 := Lib.hid hk1
 have hk2 : k ≤ 2305843009213693952 := by omega
 have S1 := Lib.hid S
 clear hg hN S hnc hk1
 have S2 := Lib.hid (show Sl.Sep W _ [Bag.bag ([row_String (some ⟨g, 0, none⟩) c xs] ++ rws_String xs), Run.restL W w fps] from S1.out)
 clear S1
 have S3 := Lib.hid (show Sl.Sep W _ [Bag.bag ([row_String (some ⟨g, 0, none⟩) c xs]), _, Bag.bag (rws_String xs)] from Bag.bag_split S2.out 0 rfl)
 clear S2
 have S4 := Lib.hid (show Sl.Sep W _ [Sv.ownV 9 1 (some ⟨g, 0, none⟩) c N ((mks em_String cnt_String k [] ++ xs.drop 0).flatMap cl_String), _, _] from (by have h := Bag.one_of_bag S3.out 0 (r := row_String (some ⟨g, 0, none⟩) c xs) rfl; unfold RowS.res row_String at h; dsimp only at h; rw [← HN.out] at h; exact h))
 clear S3
 have S5 := Lib.hid (show Sl.Sep W _ [Sv.ownV 9 1 (some ⟨g, 0, none⟩) c N ((mks em_String cnt_String k [] ++ xs.drop 0).flatMap cl_String), Bag.bag (rws_String (mks em_String cnt_String k []) ++ rws_String (xs.drop 0)), Run.restL W w fps] from Bag.take (by have h := S4.out; rw [show rws_String xs = rws_String (mks em_String cnt_String k []) ++ rws_String (xs.drop 0) from by rw [← rws_String_app]; rfl] at h; exact h) [0, 2, 1] (by rfl) (by decide))
 clear S4
 go_enter Try.func57, Try.ntmps57
 go_wp2_with fail
 go_loopw [1, 5] (fun v i wr => ∃ (j : Nat) (m : Int), j ≤ N ∧ i = .int .i64 j ∧ v = .int .i64 m ∧ k ≤ m ∧ m ≤ 2305843009213693952 ∧ Hid (m = k + (fsum cnt_String (xs.take j) : Int) ∧ Sl.Sep W wr [Sv.ownV 9 1 (some ⟨g, 0, none⟩) c N (((mks em_String cnt_String k (xs.take j)) ++ xs.drop j).flatMap cl_String), Bag.bag (rws_String (mks em_String cnt_String k (xs.take j)) ++ rws_String (xs.drop j)), Run.restL W w fps])) (fun _ i _ => N - (intOf i).toNat)
 case atStart => exact ⟨0, k, Nat.zero_le _, rfl, rfl, by omega, by omega, And.intro (by rw [List.take_zero, fsum_nil]; omega) S5.out⟩
 case round =>
  obtain ⟨j, m, hj, rfl, rfl, hm0, hm1, hrel⟩ := hrel
  have HM := Lib.hid hrel.out.1
  have S6 := Lib.hid hrel.out.2
  clear hrel S5
  by_cases hlt : (j : Int) < (N : Int)
  ·
   skip
   have hjl : j < xs.length := by have := HN.out; omega
   obtain ⟨x, hx⟩ : ∃ x, xs[j]? = some x := ⟨_, List.getElem?_eq_getElem hjl⟩
   have HFT := Lib.hid (fsum_take (f := cnt_String) hx)
   have hfa := fsum_at (f := cnt_String) hx
   have hcx : cnt_String x = 1 := rfl
   have HMN := Lib.hid (show (mks em_String cnt_String k (xs.take (j + 1))) = (mks em_String cnt_String k (xs.take j)) ++ [em_String m x] from by rw [mks_next em_String cnt_String k hx, ← HM.out])
   have HDR := Lib.hid (drop_next hx)
   have hwm : wt_String (co_String x) + 1 ≤ 1125899906842624 := by have h1 := wsum_mem (f := wt_String) (List.mem_map.2 ⟨x, List.mem_of_getElem? hx, rfl⟩ : co_String x ∈ xs.map co_String); have h2 := HF.out; rw [coS_String_eq] at h2; omega
   clear hwm hx
   have hmc : m + (cnt_String x : Int) ≤ 2305843009213693952 := by have := HM.out; have := HK1.out; omega
   have HCX := Lib.hid hcx
   have hcx' : (cnt_String x : Int) = 1 := by omega
   rw [hcx'] at hmc
   clear hcx' hcx hfa
   obtain ⟨m1', hm⟩ : ∃ u : Int, u = m + 1 := ⟨_, rfl⟩
   have bd0 : 0 < m1' ∧ m1' ≤ 2305843009213693952 := by omega
   have bl0 : m ≤ m1' := by omega
   have HM1 := Lib.hid hm
   have hme1 := hm
   clear hm
   clear hmc hme1
   have HDL := Lib.hid (show ((mks em_String cnt_String k (xs.take j)).flatMap cl_String).length = j by rw [flat_len cl_String_len, Nat.mul_one, mks_len, List.length_take, Nat.min_eq_left (by omega)])
   obtain ⟨R0, hR0⟩ : ∃ R0, R0 = (xs.drop (j + 1)).flatMap cl_String := ⟨_, rfl⟩
   obtain ⟨D0, hD0⟩ : ∃ D0, D0 = (mks em_String cnt_String k (xs.take j)).flatMap cl_String := ⟨_, rfl⟩
   have HR0 := Lib.hid hR0
   have HD0 := Lib.hid hD0
   rw [← hD0] at HDL
   clear hR0 hD0
   have S7 := Lib.hid (show Sl.Sep W _ [Sv.ownV 9 1 (some ⟨g, 0, none⟩) c N (D0 ++ (.string x.f_S :: R0)), Bag.bag (rws_String (mks em_String cnt_String k (xs.take j)) ++ rws_String (xs.drop j)), Run.restL W w fps] from (by have h := S6.out; rw [show ((mks em_String cnt_String k (xs.take j)) ++ xs.drop j).flatMap cl_String = D0 ++ (.string x.f_S :: R0) from by rw [List.flatMap_append, HDR.out, List.flatMap_cons, ← HR0.out, ← HD0.out]; rfl] at h; exact h))
   clear S6
   have HMT := Lib.hid (fun w' => L5.markText_any m (by omega) (by omega) w')
   have q0 : World.cell? wr ⟨g, j, none⟩ = some (.string x.f_S) := by rw [(Sv.own_at S7.out 0 rfl).cell j (by rw [List.length_append, HDL.out]; simp <;> omega)]; simp [List.getElem_append, HDL.out]
   have z0 := (Sv.own_at S7.out 0 rfl).free j
   go_wp2_with fail
   go_at_call 129
   refine (HMT.out _).mono ?_
   rintro e w1 ⟨rfl, hb⟩
   clear q0 z0
   have S8 := Lib.hid (S7.out.keep hb)
   clear S7
   clear hb
   clear HMT
   have q0 : World.cell? w1 ⟨g, j, none⟩ = some (.string x.f_S) := by rw [(Sv.own_at S8.out 0 rfl).cell j (by rw [List.length_append, HDL.out]; simp <;> omega)]; simp [List.getElem_append, HDL.out]
   have z0 := (Sv.own_at S8.out 0 rfl).free j
   go_wp2_with fail
   try simp only [← HM1.out]
   clear q0 z0
   have HOV := Lib.hid (show Run.over (D0 ++ (.string x.f_S :: R0)) j [.string (markT m)] = D0 ++ (.string (markT m) :: R0) from by rw [show D0 ++ (.string x.f_S :: R0) = D0 ++ ([.string x.f_S] ++ (R0)) from by simp, Run.over_mid D0 (R0) [.string (markT m)] [.string x.f_S] j (by simp [HDL.out]) rfl]; simp)
   have S9 := Lib.hid (show Sl.Sep W (w1.setCell ⟨g, j, none⟩ (.string (markT m))) [Sv.ownV 9 1 (some ⟨g, 0, none⟩) c N (D0 ++ (.string (markT m) :: R0)), Bag.bag (rws_String (mks em_String cnt_String k (xs.take j)) ++ rws_String (xs.drop j)), Run.restL W w fps] from (by have h := Run.put_run S8.out 0 rfl j [.string (markT m)] (by rw [List.length_append, HDL.out]; simp <;> omega); rw [HOV.out] at h; exact h))
   clear S8
   clear HOV
   generalize (w1.setCell ⟨g, j, none⟩ (.string (markT m))) = w2 at S9 ⊢
   have S10 := Lib.hid (show Sl.Sep W _ [_, Bag.bag (rws_String (mks em_String cnt_String k (xs.take (j + 1))) ++ rws_String (xs.drop (j + 1))), _] from S9.out)
   clear S9
   have HROW := Lib.hid (show ((mks em_String cnt_String k (xs.take (j + 1))) ++ xs.drop (j + 1)).flatMap cl_String = D0 ++ (.string (markT m) :: R0) from by rw [HMN.out, List.flatMap_append, List.flatMap_append, ← HR0.out, ← HD0.out, List.append_assoc, List.flatMap_cons, List.flatMap_nil, List.append_nil]; unfold cl_String em_String; rfl)
   have S11 := Lib.hid (show Sl.Sep W _ [Sv.ownV 9 1 (some ⟨g, 0, none⟩) c N (((mks em_String cnt_String k (xs.take (j + 1))) ++ xs.drop (j + 1)).flatMap cl_String), _, _] from (by rw [HROW.out]; exact S10.out))
   clear S10
   go_roundw
   case rel => exact ⟨j + 1, m1', by omega, by go_num, by first | rfl | go_num, by omega, by omega, And.intro (by have h1 := HFT.out; have h2 := HCX.out; have h3 := HM.out; have := HM1.out; omega) S11.out⟩
   case measure => simp [intOf]; omega
  ·
   skip
   obtain rfl : j = N := by omega
   have hT : xs.take j = xs := List.take_of_length_le (by have := HN.out; omega)
   have hD : xs.drop j = [] := List.drop_of_length_le (by have := HN.out; omega)
   have HT := Lib.hid hT
   have HD := Lib.hid hD
   clear hT hD
   have S7 := Lib.hid (show Sl.Sep W _ [Sv.ownV 9 1 (some ⟨g, 0, none⟩) c j ((mks em_String cnt_String k xs).flatMap cl_String), Bag.bag (rws_String (mks em_String cnt_String k xs)), Run.restL W w fps] from (by have h := S6.out; rw [HT.out, HD.out, List.append_nil, ← rws_String_app, List.append_nil] at h; exact h))
   clear S6
   have S8 := Lib.hid (show Sl.Sep W _ [Bag.bag ([row_String (some ⟨g, 0, none⟩) c (mks em_String cnt_String k xs)]), _, _] from Bag.bag_of_one S7.out 0 (r := row_String (some ⟨g, 0, none⟩) c (mks em_String cnt_String k xs)) (by unfold RowS.res row_String; dsimp only; rw [mks_len, ← HN.out]; rfl))
   clear S7
   have S9 := Lib.hid (show Sl.Sep W _ [Bag.bag ([row_String (some ⟨g, 0, none⟩) c (mks em_String cnt_String k xs)] ++ (rws_String (mks em_String cnt_String k xs))), Bag.bag ([]), _] from Bag.bag_join S8.out 0 1 (by decide) rfl rfl)
   clear S8
   have S10 := Lib.hid (show Sl.Sep W _ [_, _] from Bag.take S9.out [0, 2] (by rfl) (by decide))
   clear S9
   go_wp2_with fail
   go_ret
   exact ⟨by have h := HM.out; rw [HT.out] at h; rw [← h] <;> rfl, S10.out⟩
theorem mark_StringS {W w : World} {rs : List Res} (h : Sl.Sep W w rs) (i : Nat) {a : Option Addr} {c : Nat} {xs : List X_String} (hi : rs[i]? = some (bag (rs_String a c xs))) (k : Int) (hf : wsum wt_String (coS_String xs) ≤ 1125899906842624) (hk0 : 0 < k) (hk1 : k + (fsum cnt_String xs : Int) ≤ 2305843009213693952) :
  Calls Try.prog 57 #[.slice a xs.length c, .int .i64 k] w fun e w' => e = .returned (.int .i64 (k + (fsum cnt_String xs : Int))) ∧ Sl.Sep W w' (rs.set i (bag (rs_String a c (mks em_String cnt_String k xs)))) :=
 (mark_StringS_sep a c xs k W w (Run.restL_start h i hi) hf hk0 hk1).mono fun _ _ ⟨he, hs⟩ => ⟨he, Run.restL_back h i hi hs (rs_String_fp a c xs k)⟩
set_option maxHeartbeats 8000000 in
theorem held_StringS (a : Option Addr) (c : Nat) (xs : List X_String) (k : Int) (hf : wsum wt_String (coS_String xs) ≤ 1125899906842624) (hk0 : 0 < k) (hk1 : k + (fsum cnt_String xs : Int) ≤ 2305843009213693952) (w : World) (hr : Reads w w.heap.size a ((mks em_String cnt_String k xs).flatMap cl_String)) (hx : RowsRd w w.heap.size (rws_String (mks em_String cnt_String k xs))) :
  Calls Try.prog 58 #[.slice a xs.length c, .int .i64 k] w fun e w' => e = .returned (.int .i64 (k + (fsum cnt_String xs : Int))) ∧ Below w.heap.size w w' := by
 have HF := Lib.hid hf
 have hl : xs.length ≤ 1125899906842624 := by have := wsum_len wt_String (coS_String xs); rw [coS_String_eq, List.length_map] at this; rw [coS_String_eq] at hf; omega
 clear hf
 have HR := Lib.hid (fun w' (h : Below w.heap.size w w') => hr.below h)
 have HX := Lib.hid (fun w' (h : Below w.heap.size w w') => (hx.below h).more h.size)
 obtain ⟨N, hN⟩ : ∃ n, n = xs.length := ⟨_, rfl⟩
 rw [← hN] at hl ⊢
 have hl' : (N : Int) ≤ 1125899906842624 := by omega
 have HN := Lib.hid hN
 have HK1 := Lib.hid hk1
 have hk2 : k ≤ 2305843009213693952 := by omega
 clear hN hr hx hk1
 have S1 := Lib.hid (show Sl.Sep w w [] from Sl.Sep.start w)
 go_enter Try.func58, Try.ntmps58
 go_wp2_with fail
 go_loopw [1, 5] (fun v i wr => ∃ (j : Nat) (m : Int), j ≤ N ∧ i = .int .i64 j ∧ v = .int .i64 m ∧ k ≤ m ∧ m ≤ 2305843009213693952 ∧ Hid (m = k + (fsum cnt_String (xs.take j) : Int) ∧ Sl.Sep w wr [])) (fun _ i _ => N - (intOf i).toNat)
 case atStart => exact ⟨0, k, Nat.zero_le _, rfl, rfl, by omega, by omega, And.intro (by rw [List.take_zero, fsum_nil]; omega) S1.out⟩
 case round =>
  obtain ⟨j, m, hj, rfl, rfl, hm0, hm1, hrel⟩ := hrel
  have HM := Lib.hid hrel.out.1
  have S2 := Lib.hid hrel.out.2
  clear hrel S1
  by_cases hlt : (j : Int) < (N : Int)
  ·
   skip
   have hjl : j < xs.length := by have := HN.out; omega
   obtain ⟨x, hx⟩ : ∃ x, xs[j]? = some x := ⟨_, List.getElem?_eq_getElem hjl⟩
   have HFT := Lib.hid (fsum_take (f := cnt_String) hx)
   have hfa := fsum_at (f := cnt_String) hx
   have hcx : cnt_String x = 1 := rfl
   have hmx : (mks em_String cnt_String k xs)[j]? = some (em_String m x) := by rw [mks_at em_String cnt_String k hx, ← HM.out]
   obtain ⟨ad, e'⟩ := el_some cl_String_len (by decide) (HR.out _ S2.out.old) (List.getElem?_eq_some_iff.1 hmx).1
   subst e'
   have HK := fun w' (h : Below w.heap.size w w') => el1 cl_String_len (HR.out _ h) hmx rfl; simp only [Nat.mul_one] at HK
   dsimp only [em_String] at HK
   have hwm : wt_String (co_String x) + 1 ≤ 1125899906842624 := by have h1 := wsum_mem (f := wt_String) (List.mem_map.2 ⟨x, List.mem_of_getElem? hx, rfl⟩ : co_String x ∈ xs.map co_String); have h2 := HF.out; rw [coS_String_eq] at h2; omega
   clear hwm
   have hmc : m + (cnt_String x : Int) ≤ 2305843009213693952 := by have := HM.out; have := HK1.out; omega
   have HCX := Lib.hid hcx
   have hcx' : (cnt_String x : Int) = 1 := by omega
   rw [hcx'] at hmc
   clear hcx' hcx hfa
   obtain ⟨m1', hm⟩ : ∃ u : Int, u = m + 1 := ⟨_, rfl⟩
   have bd0 : 0 < m1' ∧ m1' ≤ 2305843009213693952 := by omega
   have bl0 : m ≤ m1' := by omega
   have HM1 := Lib.hid hm
   have hme1 := hm
   clear hm
   try simp only [mks_len] at HK
   try simp only [← hme1] at HK 
   obtain ⟨tt0, htt⟩ : ∃ t, markT m = t := ⟨_, rfl⟩
   have HMT0 := fun w' => L5.markText_any m (by omega) (by omega) w'
   rw [htt] at HMT0
   simp only [htt] at HK
   replace HMT0 := Lib.hid HMT0
   clear htt
   replace HK := Lib.hid HK
   clear hmx hx hme1 hmc
   have f0 := HK.out _ S2.out.old
   go_upto_region 4 with fail
   clear f0
   refine wp_region_held_drew (S := (fun w' => (w'.cell? (ad.add j) = some (.string tt0)))) (by kernel_rfl) ((And.intro (HK.out _ (Bag.drew1 S2.out).old) trivial).1) (fun hS => ?_)
   have S3 := Lib.hid (Bag.drew1 S2.out)
   clear S2
   generalize World.drew _ = w1 at hS S3 ⊢
   refine tk 0 rfl ?_
   try simp only [zp0, zp1, zp2, zp3, zp4]
   refine tk 1 rfl ?_
   try simp only [zp0, zp1, zp2, zp3, zp4]
   refine tk 2 rfl ?_
   try simp only [zp0, zp1, zp2, zp3, zp4]
   refine tk 3 rfl ?_
   try simp only [zp0, zp1, zp2, zp3, zp4]
   refine tk 4 rfl ?_
   try simp only [zp0, zp1, zp2, zp3, zp4]
   refine Reg.one_op (i := 5) rfl (by kernel_rfl) (fun K hK => ?_)
   go_simp
   go_at_call 129
   refine (HMT0.out _).mono ?_
   rintro e w2 ⟨rfl, hb⟩
   have S4 := Lib.hid (S3.out.keep hb)
   clear S3
   clear hb
   go_wp2_with fail
   refine hK.out _ _ ((And.intro (HK.out _ S4.out.old) trivial).1) (fun hS => ?_)
   clear hK K
   try simp only [zp0, zp1, zp2, zp3, zp4]
   refine tk 6 rfl ?_
   try simp only [zp0, zp1, zp2, zp3, zp4]
   refine wpAnyH_done (by kernel_rfl) ?_ _
   have f0 := HK.out _ S4.out.old
   go_wp2_with fail
   try simp only [← HM1.out]
   go_roundw
   case rel => exact ⟨j + 1, m1', by omega, by go_num, by first | rfl | go_num, by omega, by omega, And.intro (by have h1 := HFT.out; have h2 := HCX.out; have h3 := HM.out; have := HM1.out; omega) S4.out⟩
   case measure => simp [intOf]; omega
  ·
   skip
   obtain rfl : j = N := by omega
   have hT : xs.take j = xs := List.take_of_length_le (by have := HN.out; omega)
   have HT := Lib.hid hT
   clear hT
   go_wp2_with fail
   go_ret
   exact ⟨by have h := HM.out; rw [HT.out] at h; rw [← h] <;> rfl, S2.out.old⟩
structure Y_StringZ where
 a : Option Addr
 c : Nat
 xs : List X_String
def co_StringZ (z : Y_StringZ) : List X_String := coS_String z.xs
def wt_StringZ (c : List X_String) : Nat := wsum wt_String c
def vv_StringZ (z : Y_StringZ) : Value := .slice z.a z.xs.length z.c
def rw_StringZ (z : Y_StringZ) : List RowS := rs_String z.a z.c z.xs
def md_StringZ (k : Int) (z : Y_StringZ) : Y_StringZ := ⟨z.a, z.c, mks em_String cnt_String k z.xs⟩
def ct_StringZ (z : Y_StringZ) : Nat := fsum cnt_String z.xs
theorem ctS_StringZ (z : Y_StringZ) : ct_StringZ z ≤ 64 * (wt_StringZ (co_StringZ z) + 1) := by
 have h := cnt_sum cntS_String z.xs
 unfold ct_StringZ wt_StringZ co_StringZ
 rw [coS_String_eq]
 exact Nat.le_trans h (by omega)
theorem eq_StringZ (y z : Y_StringZ) (hc : co_StringZ y = co_StringZ z) (hf : wt_StringZ (co_StringZ y) ≤ 1125899906842624) (w : World) (hr : RowsRd w w.heap.size (rw_StringZ y)) (hr2 : RowsRd w w.heap.size (rw_StringZ z)) : Calls Try.prog 54 #[vv_StringZ y, vv_StringZ z] w fun e w' => e = .returned (.bool true) ∧ Below w.heap.size w w' :=
 eq_StringS y.a z.a y.c z.c y.xs z.xs hc hf w (rd_head hr).reads (rd_head hr2).reads
theorem mark_StringZ {W w : World} {rs : List Res} (h : Sl.Sep W w rs) (i : Nat) {z : Y_StringZ} (hi : rs[i]? = some (bag (rw_StringZ z))) (k : Int) (hf : wt_StringZ (co_StringZ z) ≤ 1125899906842624) (hk0 : 0 < k) (hk1 : k + (ct_StringZ z : Int) ≤ 2305843009213693952) :
  Calls Try.prog 57 #[vv_StringZ z, .int .i64 k] w fun e w' => e = .returned (.int .i64 (k + (ct_StringZ z : Int))) ∧ Sl.Sep W w' (rs.set i (bag (rw_StringZ (md_StringZ k z)))) :=
 mark_StringS h i hi k hf hk0 hk1
theorem held_StringZ (z : Y_StringZ) (k : Int) (hf : wt_StringZ (co_StringZ z) ≤ 1125899906842624) (hk0 : 0 < k) (hk1 : k + (ct_StringZ z : Int) ≤ 2305843009213693952) (w : World) (hr : RowsRd w w.heap.size (rw_StringZ (md_StringZ k z))) :
  Calls Try.prog 58 #[vv_StringZ z, .int .i64 k] w fun e w' => e = .returned (.int .i64 (k + (ct_StringZ z : Int))) ∧ Below w.heap.size w w' :=
 held_StringS z.a z.c z.xs k hf hk0 hk1 w (rd_head hr).reads (rd_tail hr)
end Go.Proofs.Ytojcdmgcbgpdmaa.V

namespace Go.Proofs
open Go.Shelf
def Try.lays190_ren : Go.Shelf.Ren := ⟨fun | 190 => 126 | 125 => 187 | 258 => 186 | 128 => 224 | 129 => 225 | 302 => 215 | 303 => 216 | 304 => 217 | 305 => 218 | 306 => 219 | 307 => 220 | 308 => 221 | 309 => 222 | 310 => 223 | 333 => 236 | 329 => 237 | 330 => 238 | 334 => 239 | 335 => 240 | 336 => 241 | 344 => 242 | n => n, fun | 31 => 80 | 9 => 9 | 3 => 3 | 46 => 195 | 0 => 0 | 51 => 236 | 53 => 238 | 4 => 4 | 183 => 228 | 182 => 227 | 131 => 233 | 5 => 5 | 218 => 250 | 222 => 254 | 228 => 256 | 229 => 257 | n => n, fun | n => n⟩
theorem Try.lays190 : Go.Proofs.Lays.n190 Try.prog Try.lays190_ren := {
 mixed := by kernel_rfl
 f125 := Try.func187.trans (congrArg some (by kernel_rfl))
 f128 := Try.func224.trans (congrArg some (by kernel_rfl))
 f129 := Try.func225.trans (congrArg some (by kernel_rfl))
 f190 := Try.func126.trans (congrArg some (by kernel_rfl))
 f258 := Try.func186.trans (congrArg some (by kernel_rfl))
 f302 := Try.func215.trans (congrArg some (by kernel_rfl))
 f303 := Try.func216.trans (congrArg some (by kernel_rfl))
 f304 := Try.func217.trans (congrArg some (by kernel_rfl))
 f305 := Try.func218.trans (congrArg some (by kernel_rfl))
 f306 := Try.func219.trans (congrArg some (by kernel_rfl))
 f307 := Try.func220.trans (congrArg some (by kernel_rfl))
 f308 := Try.func221.trans (congrArg some (by kernel_rfl))
 f309 := Try.func222.trans (congrArg some (by kernel_rfl))
 f310 := Try.func223.trans (congrArg some (by kernel_rfl))
 f329 := Try.func237.trans (congrArg some (by kernel_rfl))
 f330 := Try.func238.trans (congrArg some (by kernel_rfl))
 f333 := Try.func236.trans (congrArg some (by kernel_rfl))
 f334 := Try.func239.trans (congrArg some (by kernel_rfl))
 f335 := Try.func240.trans (congrArg some (by kernel_rfl))
 f336 := Try.func241.trans (congrArg some (by kernel_rfl))
 f344 := Try.func242.trans (congrArg some (by kernel_rfl))
 t0 := Try.underlying0
 a0 := Try.isAgg0
 z0 := Try.sizeOf0
 v0 := Try.zeroValue0
 t3 := Try.underlying3
 a3 := Try.isAgg3
 z3 := Try.sizeOf3
 v3 := Try.zeroValue3
 t4 := Try.underlying4
 a4 := Try.isAgg4
 z4 := Try.sizeOf4
 v4 := Try.zeroValue4
 t5 := Try.underlying5
 a5 := Try.isAgg5
 z5 := Try.sizeOf5
 v5 := Try.zeroValue5
 t9 := Try.underlying9
 a9 := Try.isAgg9
 z9 := Try.sizeOf9
 v9 := Try.zeroValue9
 t31 := Try.underlying80
 a31 := Try.isAgg80
 z31 := Try.sizeOf80
 v31 := Try.zeroValue80
 t46 := Try.underlying195
 a46 := Try.isAgg195
 z46 := Try.sizeOf195
 v46 := Try.zeroValue195
 t51 := Try.underlying236
 a51 := Try.isAgg236
 z51 := Try.sizeOf236
 v51 := Try.zeroValue236
 t53 := Try.underlying238
 a53 := Try.isAgg238
 z53 := Try.sizeOf238
 v53 := Try.zeroValue238
 t131 := Try.underlying233
 a131 := Try.isAgg233
 z131 := Try.sizeOf233
 v131 := Try.zeroValue233
 t182 := Try.underlying227
 a182 := Try.isAgg227
 z182 := Try.sizeOf227
 v182 := Try.zeroValue227
 t183 := Try.underlying228
 a183 := Try.isAgg228
 z183 := Try.sizeOf228
 v183 := Try.zeroValue228
 t218 := Try.underlying250
 a218 := Try.isAgg250
 z218 := Try.sizeOf250
 v218 := Try.zeroValue250
 t222 := Try.underlying254
 a222 := Try.isAgg254
 z222 := Try.sizeOf254
 v222 := Try.zeroValue254
 t228 := Try.underlying256
 a228 := Try.isAgg256
 z228 := Try.sizeOf256
 v228 := Try.zeroValue256
 t229 := Try.underlying257
 a229 := Try.isAgg257
 z229 := Try.sizeOf257
 v229 := Try.zeroValue257 }
open Go.Sort Go.RowKit in
theorem Try.slices_Sort_string (blk off cap : Nat) (ss : List (List UInt8)) (w : World) (hH : Holds encStr w blk off ss.toArray) (hblk : blk < w.heap.size) (hsz : ss.length < 4611686018427387904) :
  Calls Try.prog 126 #[.slice (some ⟨blk, off, none⟩) ss.length cap] w fun e w' =>
   e = .returned (.tuple #[]) ∧ ∃ n os, w' = grow (putRow encStr (Sort.ahead w n) blk off (ss.mergeSort fun x y => decide (x ≤ y)).toArray) os := Any.slices_Sort_string Try.lays190 blk off cap ss w hH hblk hsz
def Try.lays194_ren : Go.Shelf.Ren := ⟨fun | 194 => 127 | n => n, fun | 31 => 80 | 9 => 9 | 3 => 3 | 4 => 4 | 0 => 0 | n => n, fun | n => n⟩
theorem Try.lays194 : Go.Proofs.Lays.n194 Try.prog Try.lays194_ren := {
 mixed := by kernel_rfl
 f194 := Try.func127.trans (congrArg some (by kernel_rfl))
 t0 := Try.underlying0
 a0 := Try.isAgg0
 z0 := Try.sizeOf0
 v0 := Try.zeroValue0
 t3 := Try.underlying3
 a3 := Try.isAgg3
 z3 := Try.sizeOf3
 v3 := Try.zeroValue3
 t4 := Try.underlying4
 a4 := Try.isAgg4
 z4 := Try.sizeOf4
 v4 := Try.zeroValue4
 t9 := Try.underlying9
 a9 := Try.isAgg9
 z9 := Try.sizeOf9
 v9 := Try.zeroValue9
 t31 := Try.underlying80
 a31 := Try.isAgg80
 z31 := Try.sizeOf80
 v31 := Try.zeroValue80 }
open Go.RowKit Go.Lib Go.Sort in
theorem Try.slices_Compact_string (blk off cap : Nat) (zs : List (List UInt8)) (w : World) (hH : Holds encStr w blk off zs.toArray) (hsz : zs.length ≤ 9223372036854775807) (hcap : zs.length ≤ cap) :
  Calls Try.prog 127 #[.slice (some ⟨blk, off, none⟩) zs.length cap] w fun e w' => e = .returned (.slice (some ⟨blk, off, none⟩) (Lib.compact zs).length cap) ∧ ∃ q, w' = putRow encStr (Sort.ahead w q) blk off (Lib.compact zs ++ List.replicate (zs.length - (Lib.compact zs).length) []).toArray := Any.slices_Compact_string Try.lays194 blk off cap zs w hH hsz hcap
open Go.RowKit Go.Lib Go.Sort in
theorem Try.slices_Compact_string_empty (a : Option Addr) (cap : Nat) (w : World) :
  Calls Try.prog 127 #[.slice a 0 cap] w fun e w' => e = .returned (.slice a 0 cap) ∧ w' = w := Any.slices_Compact_string_empty Try.lays194 a cap w
open Go.RowKit Go.Sort in
theorem Try.slices_Sort_string_none (p : Option Addr) (cap : Nat) (w : World) :
  Calls Try.prog 126 #[.slice p 0 cap] w fun e w' => e = .returned (.tuple #[]) ∧ w' = w := Any.slices_Sort_string_none Try.lays190 p cap w
end Go.Proofs

namespace Go.Proofs.Ytojcdmgcbgpdmaa.L9
open V L6
open L4 (K isK cmpK)
open L5 (F isR isN string_geq)
open Go.Op (bytesLess)
open Go.ChangeShapes Go.WideShapes Go.ChangeAt Go.RowKit Mem Sl Ex L2 Sv Bag
open Go.Sort
theorem left_scope {w w1 : World} {g cap n nn q : Nat} {os : Array Obj} {ss : List L9s.T} (hown : w1.ownsRow w.heap.size 9 1 (.slice (some ⟨g, 0, none⟩) n cap) n (ss.map encStr)) (hbel : Below w.heap.size w w1) (hbg : w.heap.size ≤ g) (hlen : ss.length = n) :
  GaveNS w (L9s.scopeN ss) (.returned (.slice (some ⟨g, 0, none⟩) (Lib.compact (ss.mergeSort fun x y => decide (x ≤ y))).length cap)) (putRow encStr (Sort.ahead (grow (putRow encStr (Sort.ahead w1 nn) g 0 (ss.mergeSort fun x y => decide (x ≤ y)).toArray) os) q) g 0 ((Lib.compact (ss.mergeSort fun x y => decide (x ≤ y))) ++ List.replicate (n - (Lib.compact (ss.mergeSort fun x y => decide (x ≤ y))).length) []).toArray) := by
 have hl2 : (ss.mergeSort fun x y => decide (x ≤ y)).length = ss.length := List.length_mergeSort ss
 have hle := Lib.compact_length_le (ss.mergeSort fun x y => decide (x ≤ y))
 subst hlen
 rcases hown.2 with ⟨h0, _⟩ | ⟨g', cap', cur, hv, hbase, hb, h1, h2, h3, h4⟩
 ·
  cases h0
 cases hv
 have hs := ownsRow_sorted (n := nn) (os := os) (ts := (ss.mergeSort fun x y => decide (x ≤ y))) hl2 hbase hb h1 h2 h3
 have hc := Lib.ownsRow_putRow (q := q) (k := (Lib.compact (ss.mergeSort fun x y => decide (x ≤ y))).length) (ys := (Lib.compact (ss.mergeSort fun x y => decide (x ≤ y))) ++ List.replicate (ss.length - (Lib.compact (ss.mergeSort fun x y => decide (x ≤ y))).length) []) hs (by simp; omega) (by omega)
 rw [List.take_left] at hc
 rw [← L9s.compact_sort]
 exact ⟨some ⟨g, 0, none⟩, cap, rfl, Bag.BagOwn.one (r := rowT (some ⟨g, 0, none⟩) cap (Lib.compact (ss.mergeSort fun x y => decide (x ≤ y)))) hc, Lib.below_putRow (hbel.grown (grownBy_sorted _) hbel.size (fun j hj => by cases hj; exact hbase)) hbg⟩
theorem holds_twice {w1 : World} {g nn : Nat} {os : Array Obj} {ss : List L9s.T} (hg : g < w1.heap.size) (hH : Holds encStr w1 g 0 ss.toArray) : Holds encStr (grow (putRow encStr (Sort.ahead w1 nn) g 0 (ss.mergeSort fun x y => decide (x ≤ y)).toArray) os) g 0 (ss.mergeSort fun x y => decide (x ≤ y)).toArray :=
 holds_grow encStr _ os g 0 _ (by simpa [putRow, mapBlock, Sort.ahead] using hg) (holds_putRow encStr _ g 0 _ _ (holds_ahead encStr w1 nn g 0 _ hH) (by simp))
def mkStr (n : L9s.T) : X_String := ⟨⟨n.toArray⟩⟩
theorem cl_mkStr : ∀ ns : List L9s.T, (ns.map mkStr).flatMap cl_String = cT ns
 | [] => rfl
 | n :: ns => by rw [List.map_cons, List.flatMap_cons, cl_mkStr ns]; rfl
theorem gaveNS_Z {w w' : World} {ns : List L9s.T} {e : Ending} (h : GaveNS w ns e w') : ∃ y : Y_StringZ, e = .returned (vv_StringZ y) ∧ co_StringZ y = ns.map mkStr ∧ BagOwn w' w.heap.size (rw_StringZ y) ∧ Below w.heap.size w w' := by
 obtain ⟨a, c, rfl, ho, hb⟩ := h
 refine ⟨⟨a, c, ns.map mkStr⟩, by unfold vv_StringZ; dsimp only; rw [List.length_map], rfl, ?_, hb⟩
 have e1 : rw_StringZ ⟨a, c, ns.map mkStr⟩ = [rowT a c ns] := by
  show row_String a c (ns.map mkStr) :: [] = _
  unfold row_String rowT
  rw [List.length_map, cl_mkStr]
 rw [e1]
 exact ho
theorem fsum_le {α : Type} (f : α → Nat) (M : Nat) : ∀ xs : List α, (∀ x ∈ xs, f x ≤ M) → fsum f xs ≤ xs.length * M
 | [], _ => by rw [fsum_nil]; exact Nat.zero_le _
 | x :: xs, h => by
  have h1 := fsum_le f M xs (fun y hy => h y (List.mem_cons_of_mem _ hy))
  have h2 := h x (List.mem_cons_self ..)
  rw [fsum_cons, List.length_cons, Nat.add_mul, Nat.one_mul]
  omega
theorem scope_wt (l : List X_Op) (h : wsum wt_Op l ≤ 1048576) : wsum wt_String ((L9s.scopeN (nmO l)).map mkStr) ≤ 1125899906842624 := by
 have h1 := wsum_len wt_Op l
 have h2 : (L9s.scopeN (nmO l)).length ≤ 1048576 := by have h3 := L9s.length_scopeN (nmO l); rw [nmO_len] at h3; omega
 have h3 := fsum_le wt_String 1048576 ((L9s.scopeN (nmO l)).map mkStr) (fun x hx => by
  obtain ⟨n, hn, rfl⟩ := List.mem_map.1 hx
  rw [L9s.mem_scopeN] at hn
  obtain ⟨o, ho, rfl⟩ := List.mem_map.1 hn
  have h4 : wt_Op o + 1 ≤ wsum wt_Op l := wsum_mem ho
  have h5 : wt_Op o = o.f_Store.size + (o.f_Key.text.size + (wt_Record o.f_Record + o.f_Field.size)) := rfl
  show (mkStr o.f_Store.data.toList).f_S.size ≤ _
  have h6 : (mkStr o.f_Store.data.toList).f_S.size = o.f_Store.size := by show (o.f_Store.data.toList.toArray).size = o.f_Store.data.size; simp
  omega)
 rw [List.length_map] at h3
 have h4 : (L9s.scopeN (nmO l)).length * 1048576 ≤ 1048576 * 1048576 := Nat.mul_le_mul_right _ h2
 unfold wsum
 rw [List.length_map]
 omega

set_option maxHeartbeats 8000000 in
theorem scopeOf_any (a : Option Addr) (c : Nat) (os : List Y_Op) (hl : os.length ≤ 1048576) (hf : ∀ o ∈ coS_Op os, FitO o) (w : World) (hr : Reads w w.heap.size a (os.flatMap cl_Op)) (hx : RowsRd w w.heap.size (rws_Op os)) :
  Calls Try.prog 53 #[.slice a os.length c] w (GaveNS w (L9s.scopeN (nmO (coS_Op os)))) := by
 have HR := Lib.hid (fun w' (h : Below w.heap.size w w') => hr.below h)
 have HX := Lib.hid (fun w' (h : Below w.heap.size w w') => (hx.below h).more h.size)
 have HF := Lib.hid hf
 obtain ⟨N, hN⟩ : ∃ n, n = os.length := ⟨_, rfl⟩
 rw [← hN] at hl ⊢
 have hl' : (N : Int) ≤ 1048576 := by omega
 have HN := Lib.hid hN
 clear hN hr hx hf
 obtain ⟨iT, hi1, hi2, hi3, hi4⟩ := infoT
 have HIT := Lib.hid (And.intro hi1 (And.intro hi2 (And.intro hi3 hi4)))
 clear hi1 hi2 hi3 hi4
 have HSL := Lib.hid (show (coS_Op os).length = N from by rw [coS_len, HN.out])
 obtain ⟨ss, hss⟩ : ∃ s, nmO (coS_Op os) = s := ⟨_, rfl⟩
 rw [hss]
 have HSS := Lib.hid hss
 clear hss
 have HNL := Lib.hid (show ss.length = N from by rw [← HSS.out, nmO_len, HSL.out])
 have S1 := Lib.hid (show Sl.Sep w w [] from Sl.Sep.start w)
 go_enter Try.func53, Try.ntmps53
 go_upto_region 2 with fail
 have S2 := Lib.hid (show Sl.Sep w _ [Sv.ownV 9 1 (some ⟨w.heap.size, 0, none⟩) 0 0 (cT [])] from Sv.push_own S1.out ((Below.refl _ _).alloc (Nat.le_refl _) _) (OwnV.madeAt w 9 1 0 w.heap.size #[] rfl (Nat.le_refl _) rfl (by decide)))
 clear S1
 obtain ⟨g1, hg⟩ : ∃ g', g' = w.heap.size := ⟨_, rfl⟩
 rw [← hg] at S2 ⊢
 clear hg
 generalize w.alloc (.cells #[] 9) = w1 at S2 ⊢
 go_wp2_with fail
 go_loopw [3, 9] (fun v i wr => ∃ (k : Nat) (A : Option Addr) (C : Nat), k ≤ N ∧ i = .int .i64 k ∧ v = .slice A k C ∧ Hid (Sl.Sep w wr [Sv.ownV 9 1 A C k (cT (ss.take k))])) (fun _ i _ => N - (intOf i).toNat)
 case atStart => exact ⟨0, _, _, Nat.zero_le _, rfl, rfl, S2.out⟩
 case round =>
  obtain ⟨k, A, C, hk, rfl, rfl, hrel⟩ := hrel
  have S40 := Lib.hid hrel.out
  clear hrel S2
  by_cases hlt : (k : Int) < (N : Int)
  ·
   skip
   have hkl : k < os.length := by have := HN.out; omega
   obtain ⟨x, hx⟩ : ∃ x, os[k]? = some x := ⟨_, List.getElem?_eq_getElem hkl⟩
   obtain ⟨oad, e'⟩ := el_some cl_Op_len (by decide) (HR.out _ S40.out.old) hkl
   subst e'
   have hro := fun w' (h : Below w.heap.size w w') => rdOs (HX.out w' h) hx
   have hrr := fun w' (h : Below w.heap.size w w') => rdO (rdOs (HX.out w' h) hx)
   obtain ⟨kd, st, ⟨kk, kn, kt⟩, ⟨ra, rc, rl⟩, fd⟩ := x
   have HK := Lib.hid (fun w' (h : Below w.heap.size w w') => el7 cl_Op_len (HR.out _ h) hx rfl)
   dsimp only at HK hrr
   have HRO := Lib.hid hro
   have HRR := Lib.hid hrr
   have HC := Lib.hid (show (coS_Op os)[k]? = some (⟨kd, st, ⟨kk, kn, kt⟩, rl, fd⟩ : X_Op) from coS_at hx)
   have HFO := Lib.hid (HF.out _ (List.mem_of_getElem? HC.out))
   clear hx hrr hro
   have HT := Lib.hid (show cT (ss.take (k + 1)) = cT (ss.take k) ++ [.string st] from by rw [← HSS.out, nm_take HC.out, cT_append, ← cT_one])
   have HTL := Lib.hid (show (cT (ss.take k)).length = k from by rw [cT_length, List.length_take, HNL.out, Nat.min_eq_left hk])
   obtain ⟨f0, f1, f2, f3, f4, f5, f6⟩ := HK.out _ S40.out.old
   go_upto_region 5 with fail
   clear f0 f1 f2 f3 f4 f5 f6
   have S41 := Lib.hid (show Sl.Sep w _ [_, _] from L4.push_box S40.out 148 #[.int .i64 kd, .string st, .int .i64 kk, .int .i64 kn, .string kt, .slice ra rl.length rc, .string fd] wr.heap.size rfl)
   clear S40
   obtain ⟨g2, hg⟩ : ∃ g', g' = wr.heap.size := ⟨_, rfl⟩
   rw [← hg] at S41 ⊢
   clear hg
   generalize wr.alloc (.cells #[.int .i64 kd, .string st, .int .i64 kk, .int .i64 kn, .string kt, .slice ra rl.length rc, .string fd] 148) = w2 at S41 ⊢
   obtain ⟨f0, f1, f2, f3, f4, f5, f6⟩ := Bag.cs7 S41.out 1 rfl
   obtain ⟨f7, f8, f9, f10, f11, f12, f13⟩ := HK.out _ S41.out.old
   have S42 := Lib.hid (show Sl.Sep w _ [_, L4.boxR g2 148 #[.int .i64 kd, .string st, .int .i64 kk, .int .i64 kn, .string kt, .slice ra rl.length rc, .string fd], Sv.ownV 9 1 (some ⟨w2.heap.size, 0, none⟩) 1 1 ([.string st])] from Sv.push_own S41.out ((Below.refl _ _).alloc (Nat.le_refl _) _) (OwnV.madeAt w2 9 1 1 w2.heap.size #[.string st] rfl (Nat.le_refl _) rfl (by decide)))
   clear S41
   go_wp2_with (at_builtin; refine L5.wpList_append_v S42.out 0 rfl rfl _ _ 80 (by rfl) iT (.string ⟨#[]⟩) 16 Try.underlying80 HIT.out.1 HIT.out.2.1 HIT.out.2.2.1 HIT.out.2.2.2 rfl (by omega) _ (by rfl) rfl _ _ 1 _ _ ([.string st]) (by rfl) rfl (Sv.own_at S42.out 2 rfl).reads rfl (one_str1 _) (by unfold maxLen; omega) (by omega) ?_; intro a3' c3' w3 hA)
   have S43 := Lib.hid (show Sl.Sep w _ [Sv.ownV 9 1 a3' c3' (k + 1) (cT (ss.take k) ++ ([.string st])), _, _] from hA)
   clear S42
   clear hA
   clear f0 f1 f2 f3 f4 f5 f6 f7 f8 f9 f10 f11 f12 f13
   have S44 := Lib.hid (show Sl.Sep w _ [Sv.ownV 9 1 a3' c3' (k + 1) (cT (ss.take (k + 1))), _, _] from (by rw [HT.out]; exact S43.out))
   clear S43
   have S45 := Lib.hid (show Sl.Sep w _ [_] from Bag.take S44.out [0] (by rfl) (by decide))
   clear S44
   go_roundw
   case rel => exact ⟨k + 1, a3', c3', by omega, by go_num, rfl, S45.out⟩
   case measure => simp [intOf]; omega
  ·
   skip
   obtain rfl : k = N := by omega
   have HTA := Lib.hid (show ss.take k = ss from List.take_of_length_le (by rw [HNL.out]; exact Nat.le_refl _))
   have S41 := Lib.hid (show Sl.Sep w _ [Sv.ownV 9 1 A C k (cT ss)] from (by have h := S40.out; rw [HTA.out] at h; exact h))
   clear S40
   have HOW := (Sv.own_from S41.out 0 rfl)
   have HOLD := Lib.hid S41.out.old
   clear S41
   rcases HOW.form with ⟨rfl, hk0, hx0, rfl⟩ | ⟨g, rfl, hbg, hgl, hkC, hCm⟩
   ·
    subst hk0
    have hsn : ss = [] := List.eq_nil_of_length_eq_zero HNL.out
    subst hsn
    have HOW2 := Lib.hid HOW
    clear HOW
    go_wp2_with (first | (go_at_call 126; refine (Try.slices_Sort_string_none none 0 _).mono ?_; rintro e w2 ⟨rfl, rfl⟩) | (go_at_call 127; refine (Try.slices_Compact_string_empty none 0 _).mono ?_; rintro e w3 ⟨rfl, rfl⟩))
    go_ret
    exact ⟨none, 0, rfl, Bag.BagOwn.one (r := rowT none 0 []) HOW2.out, HOLD.out⟩
   ·
    skip
    have hown : World.ownsRow _ w.heap.size 9 1 (.slice (some ⟨g, 0, none⟩) k C) k (ss.map encStr) := HOW
    obtain ⟨g', cap', hv, -, -, -, -, -, hH⟩ := Lib.holds_of_ownsRow hown (by intro h; cases h)
    cases hv
    have hsort := Try.slices_Sort_string g 0 C ss _ hH hgl (by have := HNL.out; omega)
    rw [HNL.out] at hsort
    have HOW2 := Lib.hid (And.intro hown (And.intro hbg (And.intro hgl hH)))
    clear hown hH HOW hbg hgl
    replace hsort := Lib.hid hsort
    go_wp2_with fail
    go_at_call 126
    refine hsort.out.mono ?_
    rintro e w2 ⟨rfl, nn, os', rfl⟩
    clear hsort
    have hl2 : (ss.mergeSort fun x y => decide (x ≤ y)).length = k := by rw [List.length_mergeSort]; exact HNL.out
    have hcomp := Try.slices_Compact_string g 0 C (ss.mergeSort fun x y => decide (x ≤ y)) _ (holds_twice (nn := nn) (os := os') HOW2.out.2.2.1 HOW2.out.2.2.2) (by omega) (by omega)
    rw [hl2] at hcomp
    replace hcomp := Lib.hid hcomp
    go_wp2_with fail
    go_at_call 127
    refine hcomp.out.mono ?_
    rintro e w3 ⟨rfl, q, rfl⟩
    clear hcomp
    go_wp2_with fail
    go_ret
    exact left_scope HOW2.out.1 HOLD.out HOW2.out.2.1 HNL.out
end Go.Proofs.Ytojcdmgcbgpdmaa.L9

