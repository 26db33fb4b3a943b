/-
  The contracts of the library's slices.IndexFunc over items, and of chapter 6's FindItem of the program. Conditions: keys' texts of at most 2^40 bytes, at most 2^20 fields and items. (Written by my program gen_l6h.py.)
-/
import Derived.Test.YtkfejjoehgipmaaL6Ia
import Derived.Test.YtkfejjoehgipmaaL6Sb
namespace Go.Proofs.Ytkfejjoehgipmaa.L6
set_option maxRecDepth 100000
open L4 (K isK cmpK R inR encU)
open L5 (F isR isN cellsF encR eqR Small)
open Go.ChangeShapes Go.WideShapes Go.ChangeAt Go.RowKit Mem Sl Ex L2 Sv Bag
set_option linter.unusedVariables false
set_option linter.unusedSimpArgs false

def ixP (f : It → Bool) (xs : List It) : Int := match xs.findIdx? f with
  | some i => i
  | none => -1
theorem ixP_at {f : It → Bool} {xs : List It} (i : Nat) (x : It) (hx : xs[i]? = some x) (h : f x = true) (ha : ∀ j (hj : j < xs.length), j < i → f xs[j] = false) : ixP f xs = i := by
  obtain ⟨hi, rfl⟩ := List.getElem?_eq_some_iff.1 hx
  unfold ixP
  rw [show xs.findIdx? f = some i from by
    rw [List.findIdx?_eq_some_iff_getElem]
    exact ⟨hi, h, fun j hj => by rw [ha j (by omega) hj]; simp⟩]
theorem ixP_none {f : It → Bool} {xs : List It} (ha : ∀ j (hj : j < xs.length), f xs[j] = false) : ixP f xs = -1 := by
  unfold ixP
  rw [show xs.findIdx? f = none from by
    rw [List.findIdx?_eq_none_iff]
    intro x hx
    obtain ⟨j, hj, rfl⟩ := List.getElem_of_mem hx
    exact ha j hj]
theorem fndI_ixP (xs : List It) (k : K) : fndI xs k = ixP (fun x => eqK x.k k) xs := rfl
def Tests (Fn g : Nat) (f : It → Bool) (xs : List LI) (w : World) : Prop :=
  ∀ x ∈ xs, ∀ w', Below w.heap.size w w' → Calls Try.prog Fn #[.agg #[.int .i64 x.k.kind, .int .i64 x.k.n, .string x.k.text, .slice x.a x.l.length x.c], .pointer (some ⟨g, 0, none⟩)] w' fun e w'' => e = .returned (.bool (f x.con)) ∧ Below w'.heap.size w' w''

set_option maxHeartbeats 2000000 in
theorem indexFuncA_any (g : Nat) (f : It → Bool) (a : Option Addr) (c : Nat) (xs : List LI) (hl : xs.length ≤ 1048576) (w : World) (hr : Reads w w.heap.size a (cellsI xs)) (hp : Tests 71 g f xs w) :
    Calls Try.prog 70 #[.slice a xs.length c, .func (.func 71) #[] #[.pointer (some ⟨g, 0, none⟩)]] w fun e w' => e = .returned (.int .i64 (ixP f (conI xs))) ∧ Below w.heap.size w w' := by
  have HR := Lib.hid (fun w' (h : Below w.heap.size w w') => hr.below h)
  have HP := Lib.hid hp
  obtain ⟨N, hN⟩ : ∃ n, n = xs.length := ⟨_, rfl⟩
  rw [← hN] at hl ⊢
  have hl' : (N : Int) ≤ 1048576 := by omega
  have HN := Lib.hid hN
  clear hN hr hp
  have S1 := Lib.hid (show Sl.Sep w w [] from Sl.Sep.start w)
  go_enter Try.func70, Try.ntmps70
  go_wp2_with fail
  go_loopw [8] (fun i wr => ∃ k : Nat, k ≤ N ∧ i = .int .i64 k ∧ Hid ((∀ j (hj : j < (conI xs).length), j < k → f (conI xs)[j] = false) ∧ Sl.Sep w wr [])) (fun i _ => N - (intOf i).toNat)
  case atStart => exact ⟨0, Nat.zero_le _, rfl, And.intro (fun j hj h => absurd h (by omega)) S1.out⟩
  case round =>
    obtain ⟨k, hk, rfl, hrel⟩ := hrel
    have HA := Lib.hid hrel.out.1
    have S2 := Lib.hid hrel.out.2
    clear hrel S1
    by_cases hlt : (k : Int) < (N : Int)
    · skip
      have hkl : k < xs.length := by have := HN.out; omega
      obtain ⟨ad, x, rfl, hx⟩ := readsI_some (HR.out _ S2.out.old) k hkl
      have HC := Lib.hid (show (conI xs)[k]? = some x.con from con_of hx)
      have HPX := Lib.hid (fun w' (h : Below w.heap.size w w') => HP.out x (List.mem_of_getElem? hx) w' h)
      obtain ⟨⟨kd, n, t⟩, ia, ic, l⟩ := x
      have HK := Lib.hid (fun w' (h : Below w.heap.size w w') => readsI_at (HR.out _ h) k _ hx)
      try dsimp only at HK HPX
      clear hx
      obtain ⟨b, hb⟩ : ∃ b, f (LI.mk ⟨kd, n, t⟩ ia ic l).con = b := ⟨_, rfl⟩
      rw [hb] at HPX
      have HB := Lib.hid hb
      clear hb
      have f0 : World.cell? _ (ad.add (k * 4)) = some (.int .i64 kd) := (HK.out _ S2.out.old).1
      have f1 : World.cell? _ (⟨(ad.add (k * 4)).block, (ad.add (k * 4)).off + 1, none⟩) = some (.int .i64 n) := (HK.out _ S2.out.old).2.1
      have f2 : World.cell? _ (⟨(ad.add (k * 4)).block, (ad.add (k * 4)).off + 2, none⟩) = some (.string t) := (HK.out _ S2.out.old).2.2.1
      have f3 : World.cell? _ (⟨(ad.add (k * 4)).block, (ad.add (k * 4)).off + 3, none⟩) = some (.slice ia l.length ic) := (HK.out _ S2.out.old).2.2.2
      go_wp2_with fail
      go_at_call 71
      refine (HPX.out _ S2.out.old).mono ?_
      rintro e w3 ⟨rfl, hb⟩
      clear f0 f1 f2 f3
      have S3 := Lib.hid (show Sl.Sep w _ [] from S2.out.keep hb)
      clear S2
      clear hb
      cases b with
      | true =>
        go_wp2_with fail
        go_ret
        exact ⟨by rw [ixP_at k _ HC.out HB.out HA.out]; rfl, S3.out.old⟩
      | false =>
        go_wp2_with fail
        go_roundw
        case rel => exact ⟨k + 1, by omega, by go_num, And.intro (fun j hj h => by
          by_cases e : j < k
          · exact HA.out j hj e
          · obtain rfl : j = k := by omega
            rw [(List.getElem?_eq_some_iff.1 HC.out).2]; exact HB.out) S3.out⟩
        case measure => simp [intOf]; omega
    · skip
      go_wp2_with fail
      go_ret
      obtain rfl : k = N := by omega
      exact ⟨by rw [ixP_none (fun j hj => HA.out j hj (by have := HN.out; rw [conI_length] at hj; omega))]; rfl, S2.out.old⟩
set_option maxHeartbeats 2000000 in
theorem indexFuncB_any (g : Nat) (f : It → Bool) (a : Option Addr) (c : Nat) (xs : List LI) (hl : xs.length ≤ 1048576) (w : World) (hr : Reads w w.heap.size a (cellsI xs)) (hp : Tests 83 g f xs w) :
    Calls Try.prog 70 #[.slice a xs.length c, .func (.func 83) #[] #[.pointer (some ⟨g, 0, none⟩)]] w fun e w' => e = .returned (.int .i64 (ixP f (conI xs))) ∧ Below w.heap.size w w' := by
  have HR := Lib.hid (fun w' (h : Below w.heap.size w w') => hr.below h)
  have HP := Lib.hid hp
  obtain ⟨N, hN⟩ : ∃ n, n = xs.length := ⟨_, rfl⟩
  rw [← hN] at hl ⊢
  have hl' : (N : Int) ≤ 1048576 := by omega
  have HN := Lib.hid hN
  clear hN hr hp
  have S1 := Lib.hid (show Sl.Sep w w [] from Sl.Sep.start w)
  go_enter Try.func70, Try.ntmps70
  go_wp2_with fail
  go_loopw [8] (fun i wr => ∃ k : Nat, k ≤ N ∧ i = .int .i64 k ∧ Hid ((∀ j (hj : j < (conI xs).length), j < k → f (conI xs)[j] = false) ∧ Sl.Sep w wr [])) (fun i _ => N - (intOf i).toNat)
  case atStart => exact ⟨0, Nat.zero_le _, rfl, And.intro (fun j hj h => absurd h (by omega)) S1.out⟩
  case round =>
    obtain ⟨k, hk, rfl, hrel⟩ := hrel
    have HA := Lib.hid hrel.out.1
    have S2 := Lib.hid hrel.out.2
    clear hrel S1
    by_cases hlt : (k : Int) < (N : Int)
    · skip
      have hkl : k < xs.length := by have := HN.out; omega
      obtain ⟨ad, x, rfl, hx⟩ := readsI_some (HR.out _ S2.out.old) k hkl
      have HC := Lib.hid (show (conI xs)[k]? = some x.con from con_of hx)
      have HPX := Lib.hid (fun w' (h : Below w.heap.size w w') => HP.out x (List.mem_of_getElem? hx) w' h)
      obtain ⟨⟨kd, n, t⟩, ia, ic, l⟩ := x
      have HK := Lib.hid (fun w' (h : Below w.heap.size w w') => readsI_at (HR.out _ h) k _ hx)
      try dsimp only at HK HPX
      clear hx
      obtain ⟨b, hb⟩ : ∃ b, f (LI.mk ⟨kd, n, t⟩ ia ic l).con = b := ⟨_, rfl⟩
      rw [hb] at HPX
      have HB := Lib.hid hb
      clear hb
      have f0 : World.cell? _ (ad.add (k * 4)) = some (.int .i64 kd) := (HK.out _ S2.out.old).1
      have f1 : World.cell? _ (⟨(ad.add (k * 4)).block, (ad.add (k * 4)).off + 1, none⟩) = some (.int .i64 n) := (HK.out _ S2.out.old).2.1
      have f2 : World.cell? _ (⟨(ad.add (k * 4)).block, (ad.add (k * 4)).off + 2, none⟩) = some (.string t) := (HK.out _ S2.out.old).2.2.1
      have f3 : World.cell? _ (⟨(ad.add (k * 4)).block, (ad.add (k * 4)).off + 3, none⟩) = some (.slice ia l.length ic) := (HK.out _ S2.out.old).2.2.2
      go_wp2_with fail
      go_at_call 83
      refine (HPX.out _ S2.out.old).mono ?_
      rintro e w3 ⟨rfl, hb⟩
      clear f0 f1 f2 f3
      have S3 := Lib.hid (show Sl.Sep w _ [] from S2.out.keep hb)
      clear S2
      clear hb
      cases b with
      | true =>
        go_wp2_with fail
        go_ret
        exact ⟨by rw [ixP_at k _ HC.out HB.out HA.out]; rfl, S3.out.old⟩
      | false =>
        go_wp2_with fail
        go_roundw
        case rel => exact ⟨k + 1, by omega, by go_num, And.intro (fun j hj h => by
          by_cases e : j < k
          · exact HA.out j hj e
          · obtain rfl : j = k := by omega
            rw [(List.getElem?_eq_some_iff.1 HC.out).2]; exact HB.out) S3.out⟩
        case measure => simp [intOf]; omega
    · skip
      go_wp2_with fail
      go_ret
      obtain rfl : k = N := by omega
      exact ⟨by rw [ixP_none (fun j hj => HA.out j hj (by have := HN.out; rw [conI_length] at hj; omega))]; rfl, S2.out.old⟩
set_option maxHeartbeats 2000000 in
theorem findItem1_any (kd n : Int) (t : ByteArray) (ia : Option Addr) (ln ic g : Nat) (kd2 n2 : Int) (t2 : ByteArray) (w : World) (hg : g < w.heap.size) (h0 : w.cell? ⟨g, 0, none⟩ = some (.int .i64 kd2)) (h1 : w.cell? ⟨g, 1, none⟩ = some (.int .i64 n2)) (h2 : w.cell? ⟨g, 2, none⟩ = some (.string t2)) :
    Calls Try.prog 71 #[.agg #[.int .i64 kd, .int .i64 n, .string t, .slice ia ln ic], .pointer (some ⟨g, 0, none⟩)] w fun e w' => e = .returned (.bool (eqK ⟨kd, n, t⟩ ⟨kd2, n2, t2⟩)) ∧ Below w.heap.size w w' := by
  obtain ⟨b, hb⟩ : ∃ b, eqK ⟨kd, n, t⟩ ⟨kd2, n2, t2⟩ = b := ⟨_, rfl⟩
  have HE := fun w => key_eq kd n t kd2 n2 t2 w
  rw [hb] at HE ⊢
  clear hb
  have HK := Lib.hid (fun w' (h : Below w.heap.size w w') => (⟨(h.cell (p := ⟨g, 0, none⟩) hg).trans h0, (h.cell (p := ⟨g, 1, none⟩) hg).trans h1, (h.cell (p := ⟨g, 2, none⟩) hg).trans h2⟩ : w'.cell? ⟨g, 0, none⟩ = some (.int .i64 kd2) ∧ w'.cell? ⟨g, 1, none⟩ = some (.int .i64 n2) ∧ w'.cell? ⟨g, 2, none⟩ = some (.string t2)))
  clear h0 h1 h2
  have S1 := Lib.hid (show Sl.Sep w (w.alloc (.cells #[.int .i64 kd, .int .i64 n, .string t, .slice ia ln ic] 40)) [L4.boxR w.heap.size 40 #[.int .i64 kd, .int .i64 n, .string t, .slice ia ln ic]] from L4.push_box (Sl.Sep.start w) 40 #[.int .i64 kd, .int .i64 n, .string t, .slice ia ln ic] (w.heap.size) (by simp))
  obtain ⟨wa, hwa⟩ : ∃ u, u = (w.alloc (.cells #[.int .i64 kd, .int .i64 n, .string t, .slice ia ln ic] 40)) := ⟨_, rfl⟩
  rw [← hwa] at S1
  go_enter Try.func71, Try.ntmps71
  go_upto_region 1 with fail
  rw [← hwa]
  clear hwa
  have f0 : World.cell? _ ⟨w.heap.size, 0, none⟩ = some (.int .i64 kd) := Bag.cell_at S1.out 0 rfl 0 rfl
  have f1 : World.cell? _ ⟨w.heap.size, 1, none⟩ = some (.int .i64 n) := Bag.cell_at S1.out 0 rfl 1 rfl
  have f2 : World.cell? _ ⟨w.heap.size, 2, none⟩ = some (.string t) := Bag.cell_at S1.out 0 rfl 2 rfl
  have f3 : World.cell? _ ⟨w.heap.size, 3, none⟩ = some (.slice ia ln ic) := Bag.cell_at S1.out 0 rfl 3 rfl
  have f4 : World.cell? _ (⟨g, 0, none⟩) = some (.int .i64 kd2) := (HK.out _ S1.out.old).1
  have f5 : World.cell? _ (⟨g, 1, none⟩) = some (.int .i64 n2) := (HK.out _ S1.out.old).2.1
  have f6 : World.cell? _ (⟨g, 2, none⟩) = some (.string t2) := (HK.out _ S1.out.old).2.2
  go_wp2_with fail
  go_ret
  exact ⟨rfl, S1.out.old⟩
set_option maxHeartbeats 2000000 in
theorem findItem_any (y : LS) (k0 : K) (hf : FitS y.con) (w : World) (hr : RowsRd w w.heap.size y.rows) :
    Calls Try.prog 19 #[y.v, k0.v] w fun e w' => e = .returned (.int .i64 (fndI y.con.items k0)) ∧ Below w.heap.size w w' := by
  obtain ⟨name, a, c, xs, auto⟩ := y
  have HR := Lib.hid (fun w' (h : Below w.heap.size w w') => LS.outer (hr.below h))
  have HX := Lib.hid (fun w' (h : Below w.heap.size w w') => (LS.inner (hr.below h)).more h.size)
  have HF := Lib.hid hf.items
  have HNM := Lib.hid hf.name
  have hl := hf.len
  simp only [LS.con, conI_length] at hl
  dsimp only [LS.con] at HR HX HF HNM
  try unfold LS.v LS.cells LS.con
  try dsimp only
  obtain ⟨N, hN⟩ : ∃ n, n = xs.length := ⟨_, rfl⟩
  rw [← hN] at hl ⊢
  have hl' : (N : Int) ≤ 1048576 := by omega
  have HN := Lib.hid hN
  clear hN hr hf
  obtain ⟨kd2, n2, t2⟩ := k0
  unfold L4.K.v
  dsimp only [LS.con]
  have hmf : ∀ (fn : Fn) (first cap : Array Value) (w : World), (Instr.makeFunc fn first cap).run Try.prog w = .ok (.func fn first cap) w := fun _ _ _ _ => rfl
  have S1 := Lib.hid (show Sl.Sep w ((w.alloc (.cells #[.string name, .slice a N c, .int .i64 auto] 26)).alloc (.cells #[.int .i64 kd2, .int .i64 n2, .string t2] 28)) [L4.boxR w.heap.size 26 #[.string name, .slice a N c, .int .i64 auto], L4.boxR (w.heap.size + 1) 28 #[.int .i64 kd2, .int .i64 n2, .string t2]] from L4.push_box (L4.push_box (Sl.Sep.start w) 26 #[.string name, .slice a N c, .int .i64 auto] (w.heap.size) (by simp)) 28 #[.int .i64 kd2, .int .i64 n2, .string t2] (w.heap.size + 1) (by simp))
  obtain ⟨wa, hwa⟩ : ∃ u, u = ((w.alloc (.cells #[.string name, .slice a N c, .int .i64 auto] 26)).alloc (.cells #[.int .i64 kd2, .int .i64 n2, .string t2] 28)) := ⟨_, rfl⟩
  rw [← hwa] at S1
  go_enter Try.func19, Try.ntmps19
  go_upto_region 1 with fail
  rw [← hwa]
  clear hwa
  have hln := HN.out
  have HIF := Lib.hid (indexFuncA_any (w.heap.size + 1) (fun x => eqK x.k ⟨kd2, n2, t2⟩) a c xs (by omega) wa (HR.out _ S1.out.old |>.more S1.out.old.size) (fun x hx w' hb => by
    have c0 := Below.cell hb (p := ⟨w.heap.size + 1, 0, none⟩) (S1.out.lies 1 _ rfl _ (by simp [L4.boxR])).2
    have c1 := Below.cell hb (p := ⟨w.heap.size + 1, 1, none⟩) (S1.out.lies 1 _ rfl _ (by simp [L4.boxR])).2
    have c2 := Below.cell hb (p := ⟨w.heap.size + 1, 2, none⟩) (S1.out.lies 1 _ rfl _ (by simp [L4.boxR])).2
    exact findItem1_any _ _ _ _ _ _ _ _ _ _ w' (Nat.lt_of_lt_of_le (S1.out.lies 1 _ rfl _ (by simp [L4.boxR])).2 hb.size) (c0.trans (Bag.cell_at S1.out 1 rfl 0 rfl)) (c1.trans (Bag.cell_at S1.out 1 rfl 1 rfl)) (c2.trans (Bag.cell_at S1.out 1 rfl 2 rfl))))
  rw [← hln, ← fndI_ixP] at HIF
  clear hln
  have f0 : World.cell? _ ⟨w.heap.size, 0, none⟩ = some (.string name) := Bag.cell_at S1.out 0 rfl 0 rfl
  have f1 : World.cell? _ ⟨w.heap.size, 1, none⟩ = some (.slice a N c) := Bag.cell_at S1.out 0 rfl 1 rfl
  have f2 : World.cell? _ ⟨w.heap.size, 2, none⟩ = some (.int .i64 auto) := Bag.cell_at S1.out 0 rfl 2 rfl
  have f3 : World.cell? _ ⟨w.heap.size + 1, 0, none⟩ = some (.int .i64 kd2) := Bag.cell_at S1.out 1 rfl 0 rfl
  have f4 : World.cell? _ ⟨w.heap.size + 1, 1, none⟩ = some (.int .i64 n2) := Bag.cell_at S1.out 1 rfl 1 rfl
  have f5 : World.cell? _ ⟨w.heap.size + 1, 2, none⟩ = some (.string t2) := Bag.cell_at S1.out 1 rfl 2 rfl
  go_wp2_with fail
  go_at_call 70
  refine HIF.out.mono ?_
  rintro e w3 ⟨rfl, hb⟩
  clear f0 f1 f2 f3 f4 f5
  have S2 := Lib.hid (show Sl.Sep w _ [L4.boxR w.heap.size 26 #[.string name, .slice a N c, .int .i64 auto], L4.boxR (w.heap.size + 1) 28 #[.int .i64 kd2, .int .i64 n2, .string t2]] from S1.out.keep hb)
  clear S1
  clear hb
  go_wp2_with fail
  go_ret
  exact ⟨rfl, S2.out.old⟩
end Go.Proofs.Ytkfejjoehgipmaa.L6
