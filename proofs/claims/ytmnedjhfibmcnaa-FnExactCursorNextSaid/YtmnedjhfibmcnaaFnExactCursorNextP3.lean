/-
  What the law FnExactCursorNext needs, laid by my program lawpack.py, part 3: the texts L7Id, one behind the other; each begins with its own words.
-/
import Derived.Test.YtmnedjhfibmcnaaFnExactCursorNextP2
set_option linter.unusedSimpArgs false
/-
  The contracts of the program's isAhead, nextItem and CursorNext. Conditions: keys' texts of at most 2^40 bytes, at most 2^20 fields and items. (Written by my program gen_l7h.py.)
-/
namespace Go.Proofs.Ytmnedjhfibmcnaa.L7
set_option maxRecDepth 100000
open L4 (K isK cmpK R inR encU)
open L5 (F isR isN cellsF encR eqR Small getO getN getB)
open L6
open Go.ChangeShapes Go.WideShapes Go.ChangeAt Go.RowKit Mem Sl Ex L2 Sv Bag
set_option linter.unusedVariables false
set_option linter.unusedSimpArgs false

theorem lastO_at {p : It → Bool} : ∀ {xs : List It} {i : Nat} (h : i < xs.length), p xs[i] = true → (∀ j (hj : j < xs.length), i < j → p xs[j] = false) → lastO p xs = some i
  | x :: xs, 0, h, hp, ha => by
    have h1 : lastO p xs = none := by
      cases h2 : lastO p xs with
      | none => rfl
      | some q =>
        obtain ⟨h3, h4⟩ := lastO_lt h2
        have h5 := ha (q + 1) (by rw [List.length_cons]; omega) (by omega)
        rw [List.getElem_cons_succ, h4] at h5
        cases h5
    rw [lastO, h1]
    dsimp only
    rw [if_pos (by simpa using hp)]
  | x :: xs, i + 1, h, hp, ha => by
    have h1 := lastO_at (xs := xs) (i := i) (by rw [List.length_cons] at h; omega) (by simpa using hp) (fun j hj hij => by
      have h9 := ha (j + 1) (by rw [List.length_cons]; omega) (by omega)
      rw [List.getElem_cons_succ] at h9
      exact h9)
    rw [lastO, h1]
theorem next_first {x : Cu} {xs : List It} {k : Nat} (hb : x.back = false) (h : k < xs.length) (hk : okC x xs[k] = true) (ha : ∀ j (hj : j < xs.length), j < k → okC x xs[j] = false) : nextO x xs = some k := by
  unfold nextO
  rw [hb, if_neg (by decide), List.findIdx?_eq_some_iff_getElem]
  exact ⟨h, hk, fun j hj => by rw [ha j (by omega) hj]; simp⟩
theorem next_last {x : Cu} {xs : List It} {k : Nat} (hb : x.back = true) (h : k < xs.length) (hk : okC x xs[k] = true) (ha : ∀ j (hj : j < xs.length), k < j → okC x xs[j] = false) : nextO x xs = some k := by
  unfold nextO
  rw [hb, if_pos rfl]
  exact lastO_at h hk ha
theorem next_no {x : Cu} {xs : List It} (ha : ∀ j (hj : j < xs.length), okC x xs[j] = false) : nextO x xs = none := by
  cases h : nextO x xs with
  | none => rfl
  | some i =>
    obtain ⟨h1, h2⟩ := nextO_lt h
    rw [ha i h1] at h2
    cases h2

set_option maxHeartbeats 4000000 in
theorem isAhead_any (x : Cu) (k : K) (hx : FitC x) (hk : k.text.size ≤ 281474976710656) (w : World) :
    Calls Try.prog 129 #[x.v, k.v] w fun e w' => e = .returned (.bool (okP x k)) ∧ Below w.heap.size w w' := by
  obtain ⟨hr1, hr2, hc0⟩ := hx
  obtain ⟨⟨rl, rh, ⟨lk, ln, lt⟩, ⟨gk, gn, gt⟩⟩, bk, st, ⟨ck, cn, ct⟩⟩ := x
  obtain ⟨kd, n, t⟩ := k
  dsimp only at hr1 hr2 hc0 hk
  unfold Cu.v L4.K.v
  dsimp only
  obtain ⟨b, hb⟩ : ∃ b, inR ⟨kd, n, t⟩ ⟨rl, rh, ⟨lk, ln, lt⟩, ⟨gk, gn, gt⟩⟩ = b := ⟨_, rfl⟩
  have HIN := fun w => L4.implInRangeOf_any ⟨kd, n, t⟩ ⟨rl, rh, ⟨lk, ln, lt⟩, ⟨gk, gn, gt⟩⟩ hk hr1 hr2 w
  rw [hb] at HIN
  replace HIN := Lib.hid HIN
  dsimp only [L4.K.v, L4.R.v] at HIN
  have HCK := fun w => L4.implCompareKeys_any ⟨kd, n, t⟩ ⟨ck, cn, ct⟩ hk hc0 w
  obtain ⟨m, hm⟩ : ∃ u, cmpK ⟨kd, n, t⟩ ⟨ck, cn, ct⟩ = u := ⟨_, rfl⟩
  rw [hm] at HCK
  replace HCK := Lib.hid HCK
  dsimp only [L4.K.v] at HCK
  have HOK : okP ⟨⟨rl, rh, ⟨lk, ln, lt⟩, ⟨gk, gn, gt⟩⟩, bk, st, ⟨ck, cn, ct⟩⟩ ⟨kd, n, t⟩ = (b && !(st && (bk && decide (0 ≤ m) || !bk && decide (m ≤ 0)))) := by unfold okP; dsimp only; rw [hb, hm]
  rw [HOK]
  clear hb hm HOK
  have S1 := Lib.hid (show Sl.Sep w ((w.alloc (.cells #[.bool rl, .bool rh, .int .i64 lk, .int .i64 ln, .string lt, .int .i64 gk, .int .i64 gn, .string gt, .bool bk, .bool st, .int .i64 ck, .int .i64 cn, .string ct] 60)).alloc (.cells #[.int .i64 kd, .int .i64 n, .string t] 28)) [L4.boxR w.heap.size 60 #[.bool rl, .bool rh, .int .i64 lk, .int .i64 ln, .string lt, .int .i64 gk, .int .i64 gn, .string gt, .bool bk, .bool st, .int .i64 ck, .int .i64 cn, .string ct], L4.boxR (w.heap.size + 1) 28 #[.int .i64 kd, .int .i64 n, .string t]] from L4.push_box (L4.push_box (Sl.Sep.start w) 60 #[.bool rl, .bool rh, .int .i64 lk, .int .i64 ln, .string lt, .int .i64 gk, .int .i64 gn, .string gt, .bool bk, .bool st, .int .i64 ck, .int .i64 cn, .string ct] (w.heap.size) (by simp)) 28 #[.int .i64 kd, .int .i64 n, .string t] (w.heap.size + 1) (by simp))
  obtain ⟨wa, hwa⟩ : ∃ u, u = ((w.alloc (.cells #[.bool rl, .bool rh, .int .i64 lk, .int .i64 ln, .string lt, .int .i64 gk, .int .i64 gn, .string gt, .bool bk, .bool st, .int .i64 ck, .int .i64 cn, .string ct] 60)).alloc (.cells #[.int .i64 kd, .int .i64 n, .string t] 28)) := ⟨_, rfl⟩
  rw [← hwa] at S1
  go_enter Try.func129, Try.ntmps129
  go_upto_region 1 with fail
  rw [← hwa]
  clear hwa
  have hh := Bag.cs13 S1.out 0 rfl
  have f0 := hh.1; have f1 := hh.2.1; have f2 := hh.2.2.1; have f3 := hh.2.2.2.1; have f4 := hh.2.2.2.2.1; have f5 := hh.2.2.2.2.2.1; have f6 := hh.2.2.2.2.2.2.1; have f7 := hh.2.2.2.2.2.2.2.1; have f8 := hh.2.2.2.2.2.2.2.2.1; have f9 := hh.2.2.2.2.2.2.2.2.2.1; have f10 := hh.2.2.2.2.2.2.2.2.2.2.1; have f11 := hh.2.2.2.2.2.2.2.2.2.2.2.1; have f12 := hh.2.2.2.2.2.2.2.2.2.2.2.2; clear hh
  have hh := Bag.cs3 S1.out 1 rfl
  have f13 := hh.1; have f14 := hh.2.1; have f15 := hh.2.2; clear hh
  go_wp2_with fail
  go_at_call 65
  refine (HIN.out _).mono ?_
  rintro e w1 ⟨rfl, hb⟩
  clear f0 f1 f2 f3 f4 f5 f6 f7 f8 f9 f10 f11 f12 f13 f14 f15
  have S2 := Lib.hid (S1.out.keep hb)
  clear S1
  clear hb
  have hh := Bag.cs13 S2.out 0 rfl
  have f0 := hh.1; have f1 := hh.2.1; have f2 := hh.2.2.1; have f3 := hh.2.2.2.1; have f4 := hh.2.2.2.2.1; have f5 := hh.2.2.2.2.2.1; have f6 := hh.2.2.2.2.2.2.1; have f7 := hh.2.2.2.2.2.2.2.1; have f8 := hh.2.2.2.2.2.2.2.2.1; have f9 := hh.2.2.2.2.2.2.2.2.2.1; have f10 := hh.2.2.2.2.2.2.2.2.2.2.1; have f11 := hh.2.2.2.2.2.2.2.2.2.2.2.1; have f12 := hh.2.2.2.2.2.2.2.2.2.2.2.2; clear hh
  have hh := Bag.cs3 S2.out 1 rfl
  have f13 := hh.1; have f14 := hh.2.1; have f15 := hh.2.2; clear hh
  cases b with
  | false =>
    go_wp2_with fail
    go_ret
    exact ⟨by first | rfl | (simp), S2.out.old⟩
  | true =>
    cases st with
    | false =>
      clear f0 f1 f2 f3 f4 f5 f6 f7 f8 f9 f10 f11 f12 f13 f14 f15
      have hh := Bag.cs13 S2.out 0 rfl
      have f0 := hh.1; have f1 := hh.2.1; have f2 := hh.2.2.1; have f3 := hh.2.2.2.1; have f4 := hh.2.2.2.2.1; have f5 := hh.2.2.2.2.2.1; have f6 := hh.2.2.2.2.2.2.1; have f7 := hh.2.2.2.2.2.2.2.1; have f8 := hh.2.2.2.2.2.2.2.2.1; have f9 := hh.2.2.2.2.2.2.2.2.2.1; have f10 := hh.2.2.2.2.2.2.2.2.2.2.1; have f11 := hh.2.2.2.2.2.2.2.2.2.2.2.1; have f12 := hh.2.2.2.2.2.2.2.2.2.2.2.2; clear hh
      have hh := Bag.cs3 S2.out 1 rfl
      have f13 := hh.1; have f14 := hh.2.1; have f15 := hh.2.2; clear hh
      go_wp2_with fail
      go_ret
      exact ⟨by first | rfl | (simp), S2.out.old⟩
    | true =>
      cases bk with
      | false =>
        clear f0 f1 f2 f3 f4 f5 f6 f7 f8 f9 f10 f11 f12 f13 f14 f15
        have hh := Bag.cs13 S2.out 0 rfl
        have f0 := hh.1; have f1 := hh.2.1; have f2 := hh.2.2.1; have f3 := hh.2.2.2.1; have f4 := hh.2.2.2.2.1; have f5 := hh.2.2.2.2.2.1; have f6 := hh.2.2.2.2.2.2.1; have f7 := hh.2.2.2.2.2.2.2.1; have f8 := hh.2.2.2.2.2.2.2.2.1; have f9 := hh.2.2.2.2.2.2.2.2.2.1; have f10 := hh.2.2.2.2.2.2.2.2.2.2.1; have f11 := hh.2.2.2.2.2.2.2.2.2.2.2.1; have f12 := hh.2.2.2.2.2.2.2.2.2.2.2.2; clear hh
        have hh := Bag.cs3 S2.out 1 rfl
        have f13 := hh.1; have f14 := hh.2.1; have f15 := hh.2.2; clear hh
        go_wp2_with fail
        go_at_call 88
        refine (HCK.out _).mono ?_
        rintro e w2 ⟨rfl, hb⟩
        clear f0 f1 f2 f3 f4 f5 f6 f7 f8 f9 f10 f11 f12 f13 f14 f15
        have S3 := Lib.hid (S2.out.keep hb)
        clear S2
        clear hb
        have hh := Bag.cs13 S3.out 0 rfl
        have f0 := hh.1; have f1 := hh.2.1; have f2 := hh.2.2.1; have f3 := hh.2.2.2.1; have f4 := hh.2.2.2.2.1; have f5 := hh.2.2.2.2.2.1; have f6 := hh.2.2.2.2.2.2.1; have f7 := hh.2.2.2.2.2.2.2.1; have f8 := hh.2.2.2.2.2.2.2.2.1; have f9 := hh.2.2.2.2.2.2.2.2.2.1; have f10 := hh.2.2.2.2.2.2.2.2.2.2.1; have f11 := hh.2.2.2.2.2.2.2.2.2.2.2.1; have f12 := hh.2.2.2.2.2.2.2.2.2.2.2.2; clear hh
        have hh := Bag.cs3 S3.out 1 rfl
        have f13 := hh.1; have f14 := hh.2.1; have f15 := hh.2.2; clear hh
        go_wp2_with fail
        go_ret
        exact ⟨by first | rfl | (simp; by_cases h7 : m ≤ 0 <;> simp [h7] <;> omega), S3.out.old⟩
      | true =>
        clear f0 f1 f2 f3 f4 f5 f6 f7 f8 f9 f10 f11 f12 f13 f14 f15
        have hh := Bag.cs13 S2.out 0 rfl
        have f0 := hh.1; have f1 := hh.2.1; have f2 := hh.2.2.1; have f3 := hh.2.2.2.1; have f4 := hh.2.2.2.2.1; have f5 := hh.2.2.2.2.2.1; have f6 := hh.2.2.2.2.2.2.1; have f7 := hh.2.2.2.2.2.2.2.1; have f8 := hh.2.2.2.2.2.2.2.2.1; have f9 := hh.2.2.2.2.2.2.2.2.2.1; have f10 := hh.2.2.2.2.2.2.2.2.2.2.1; have f11 := hh.2.2.2.2.2.2.2.2.2.2.2.1; have f12 := hh.2.2.2.2.2.2.2.2.2.2.2.2; clear hh
        have hh := Bag.cs3 S2.out 1 rfl
        have f13 := hh.1; have f14 := hh.2.1; have f15 := hh.2.2; clear hh
        go_wp2_with fail
        go_at_call 88
        refine (HCK.out _).mono ?_
        rintro e w2 ⟨rfl, hb⟩
        clear f0 f1 f2 f3 f4 f5 f6 f7 f8 f9 f10 f11 f12 f13 f14 f15
        have S3 := Lib.hid (S2.out.keep hb)
        clear S2
        clear hb
        have hh := Bag.cs13 S3.out 0 rfl
        have f0 := hh.1; have f1 := hh.2.1; have f2 := hh.2.2.1; have f3 := hh.2.2.2.1; have f4 := hh.2.2.2.2.1; have f5 := hh.2.2.2.2.2.1; have f6 := hh.2.2.2.2.2.2.1; have f7 := hh.2.2.2.2.2.2.2.1; have f8 := hh.2.2.2.2.2.2.2.2.1; have f9 := hh.2.2.2.2.2.2.2.2.2.1; have f10 := hh.2.2.2.2.2.2.2.2.2.2.1; have f11 := hh.2.2.2.2.2.2.2.2.2.2.2.1; have f12 := hh.2.2.2.2.2.2.2.2.2.2.2.2; clear hh
        have hh := Bag.cs3 S3.out 1 rfl
        have f13 := hh.1; have f14 := hh.2.1; have f15 := hh.2.2; clear hh
        go_wp2_with fail
        go_ret
        exact ⟨by first | rfl | (simp; by_cases h7 : 0 ≤ m <;> simp [h7] <;> omega), S3.out.old⟩
set_option maxHeartbeats 8000000 in
theorem nextItem_any (y : LS) (x : Cu) (hf : FitS y.con) (hx : FitC x) (w : World) (hr : RowsRd w w.heap.size y.rows) :
    Calls Try.prog 93 #[y.v, x.v] w fun e w' => e = .returned (.int .i64 (nextI x y.con.items)) ∧ Below w.heap.size w w' := by
  have HFX := Lib.hid hx
  obtain ⟨X, hX⟩ : ∃ X : Cu, X = x := ⟨_, rfl⟩
  rw [← hX] at HFX ⊢
  obtain ⟨⟨rl, rh, ⟨lk, ln, lt⟩, ⟨gk, gn, gt⟩⟩, bk, st, ⟨ck, cn, ct⟩⟩ := x
  have HXX := Lib.hid hX
  clear hx
  obtain ⟨name, a, c, xs, auto⟩ := y
  have HR := Lib.hid (fun w' (h : Below w.heap.size w w') => LS.outer (hr.below h))
  have HX := Lib.hid (fun w' (h : Below w.heap.size w w') => (LS.inner (hr.below h)).more h.size)
  have HF := Lib.hid hf.items
  have HNM := Lib.hid hf.name
  have hl := hf.len
  simp only [LS.con, conI_length] at hl
  dsimp only [LS.con] at HR HX HF HNM
  try unfold LS.v LS.cells LS.con
  try dsimp only
  obtain ⟨N, hN⟩ : ∃ n, n = xs.length := ⟨_, rfl⟩
  rw [← hN] at hl ⊢
  have hl' : (N : Int) ≤ 1048576 := by omega
  have HN := Lib.hid hN
  clear hN hr hf
  have hXv : X.v = .agg #[.bool rl, .bool rh, .int .i64 lk, .int .i64 ln, .string lt, .int .i64 gk, .int .i64 gn, .string gt, .bool bk, .bool st, .int .i64 ck, .int .i64 cn, .string ct] := by rw [HXX.out]; rfl
  rw [hXv]
  have HXV := Lib.hid hXv
  clear hXv hX
  have HBK := Lib.hid (show X.back = bk from by rw [HXX.out])
  cases bk with
  | false =>
    have S1 := Lib.hid (show Sl.Sep w ((w.alloc (.cells #[.string name, .slice a N c, .int .i64 auto] 26)).alloc (.cells #[.bool rl, .bool rh, .int .i64 lk, .int .i64 ln, .string lt, .int .i64 gk, .int .i64 gn, .string gt, .bool false, .bool st, .int .i64 ck, .int .i64 cn, .string ct] 60)) [L4.boxR w.heap.size 26 #[.string name, .slice a N c, .int .i64 auto], L4.boxR (w.heap.size + 1) 60 #[.bool rl, .bool rh, .int .i64 lk, .int .i64 ln, .string lt, .int .i64 gk, .int .i64 gn, .string gt, .bool false, .bool st, .int .i64 ck, .int .i64 cn, .string ct]] from L4.push_box (L4.push_box (Sl.Sep.start w) 26 #[.string name, .slice a N c, .int .i64 auto] (w.heap.size) (by simp)) 60 #[.bool rl, .bool rh, .int .i64 lk, .int .i64 ln, .string lt, .int .i64 gk, .int .i64 gn, .string gt, .bool false, .bool st, .int .i64 ck, .int .i64 cn, .string ct] (w.heap.size + 1) (by simp))
    obtain ⟨wa, hwa⟩ : ∃ u, u = ((w.alloc (.cells #[.string name, .slice a N c, .int .i64 auto] 26)).alloc (.cells #[.bool rl, .bool rh, .int .i64 lk, .int .i64 ln, .string lt, .int .i64 gk, .int .i64 gn, .string gt, .bool false, .bool st, .int .i64 ck, .int .i64 cn, .string ct] 60)) := ⟨_, rfl⟩
    rw [← hwa] at S1
    go_enter Try.func93, Try.ntmps93
    go_upto_region 1 with fail
    rw [← hwa]
    clear hwa
    have hh := Bag.cs3 S1.out 0 rfl
    have f0 := hh.1; have f1 := hh.2.1; have f2 := hh.2.2; clear hh
    have hh := Bag.cs13 S1.out 1 rfl
    have f3 := hh.1; have f4 := hh.2.1; have f5 := hh.2.2.1; have f6 := hh.2.2.2.1; have f7 := hh.2.2.2.2.1; have f8 := hh.2.2.2.2.2.1; have f9 := hh.2.2.2.2.2.2.1; have f10 := hh.2.2.2.2.2.2.2.1; have f11 := hh.2.2.2.2.2.2.2.2.1; have f12 := hh.2.2.2.2.2.2.2.2.2.1; have f13 := hh.2.2.2.2.2.2.2.2.2.2.1; have f14 := hh.2.2.2.2.2.2.2.2.2.2.2.1; have f15 := hh.2.2.2.2.2.2.2.2.2.2.2.2; clear hh
    go_wp2_with fail
    clear f0 f1 f2 f3 f4 f5 f6 f7 f8 f9 f10 f11 f12 f13 f14 f15
    go_loopw [10] (fun i wr => ∃ k : Nat, k ≤ N ∧ i = .int .i64 k ∧ Hid ((∀ j (hj : j < (conI xs).length), j < k → okC X (conI xs)[j] = false) ∧ Sl.Sep w wr [L4.boxR w.heap.size 26 #[.string name, .slice a N c, .int .i64 auto], L4.boxR (w.heap.size + 1) 60 #[.bool rl, .bool rh, .int .i64 lk, .int .i64 ln, .string lt, .int .i64 gk, .int .i64 gn, .string gt, .bool false, .bool st, .int .i64 ck, .int .i64 cn, .string ct]])) (fun i _ => N - (intOf i).toNat)
    case atStart => exact ⟨0, Nat.zero_le _, rfl, And.intro (fun j hj h => absurd h (by have := HN.out; rw [conI_length] at hj; omega)) S1.out⟩
    case round =>
      obtain ⟨k, hk, rfl, hrel⟩ := hrel
      have HA := Lib.hid hrel.out.1
      have S2 := Lib.hid hrel.out.2
      clear hrel S1
      by_cases hlt : (k : Int) < (N : Int)
      · skip
        have hkl : k < xs.length := by have := HN.out; omega
        obtain ⟨ad, x, rfl, hx⟩ := readsI_some (HR.out _ S2.out.old) k hkl
        obtain ⟨⟨kd, n, t⟩, ia, ic, l⟩ := x
        have HK := Lib.hid (fun w' (h : Below w.heap.size w w') => readsI_at (HR.out _ h) k _ hx)
        try dsimp only at HK
        have HFI := Lib.hid (fit_at HF.out hx)
        try dsimp only [LI.con] at HFI
        have HC := Lib.hid (show (conI xs)[k]? = some (⟨⟨kd, n, t⟩, l⟩ : It) from con_of hx)
        clear hx
        obtain ⟨b, hb⟩ : ∃ b, okP X ⟨kd, n, t⟩ = b := ⟨_, rfl⟩
        have HAH := fun w => isAhead_any X ⟨kd, n, t⟩ HFX.out (by have : t.size ≤ 1099511627776 := HFI.out.text; show t.size ≤ _; omega) w
        rw [hb, HXV.out] at HAH
        replace HAH := Lib.hid HAH
        have HB := Lib.hid (show okC X ⟨⟨kd, n, t⟩, l⟩ = b from hb)
        dsimp only [L4.K.v] at HAH
        clear hb
        have hh := Bag.cs3 S2.out 0 rfl
        have f0 := hh.1; have f1 := hh.2.1; have f2 := hh.2.2; clear hh
        have hh := Bag.cs13 S2.out 1 rfl
        have f3 := hh.1; have f4 := hh.2.1; have f5 := hh.2.2.1; have f6 := hh.2.2.2.1; have f7 := hh.2.2.2.2.1; have f8 := hh.2.2.2.2.2.1; have f9 := hh.2.2.2.2.2.2.1; have f10 := hh.2.2.2.2.2.2.2.1; have f11 := hh.2.2.2.2.2.2.2.2.1; have f12 := hh.2.2.2.2.2.2.2.2.2.1; have f13 := hh.2.2.2.2.2.2.2.2.2.2.1; have f14 := hh.2.2.2.2.2.2.2.2.2.2.2.1; have f15 := hh.2.2.2.2.2.2.2.2.2.2.2.2; clear hh
        have hh := HK.out _ S2.out.old
        have f16 := hh.1; have f17 := hh.2.1; have f18 := hh.2.2.1; have f19 := hh.2.2.2; clear hh
        go_upto_region 7 with fail
        clear f0 f1 f2 f3 f4 f5 f6 f7 f8 f9 f10 f11 f12 f13 f14 f15 f16 f17 f18 f19
        refine wp_region_held_drew (S := (fun w' => (World.cell? w' ⟨w.heap.size, 0, none⟩ = some (.string name) ∧ World.cell? w' ⟨w.heap.size, 1, none⟩ = some (.slice (some ad) N c) ∧ World.cell? w' ⟨w.heap.size, 2, none⟩ = some (.int .i64 auto)) ∧ (World.cell? w' ⟨w.heap.size + 1, 0, none⟩ = some (.bool rl) ∧ World.cell? w' ⟨w.heap.size + 1, 1, none⟩ = some (.bool rh) ∧ World.cell? w' ⟨w.heap.size + 1, 2, none⟩ = some (.int .i64 lk) ∧ World.cell? w' ⟨w.heap.size + 1, 3, none⟩ = some (.int .i64 ln) ∧ World.cell? w' ⟨w.heap.size + 1, 4, none⟩ = some (.string lt) ∧ World.cell? w' ⟨w.heap.size + 1, 5, none⟩ = some (.int .i64 gk) ∧ World.cell? w' ⟨w.heap.size + 1, 6, none⟩ = some (.int .i64 gn) ∧ World.cell? w' ⟨w.heap.size + 1, 7, none⟩ = some (.string gt) ∧ World.cell? w' ⟨w.heap.size + 1, 8, none⟩ = some (.bool false) ∧ World.cell? w' ⟨w.heap.size + 1, 9, none⟩ = some (.bool st) ∧ World.cell? w' ⟨w.heap.size + 1, 10, none⟩ = some (.int .i64 ck) ∧ World.cell? w' ⟨w.heap.size + 1, 11, none⟩ = some (.int .i64 cn) ∧ World.cell? w' ⟨w.heap.size + 1, 12, none⟩ = some (.string ct)) ∧ (World.cell? w' (ad.add (k * 4)) = some (.int .i64 kd) ∧ World.cell? w' (⟨(ad.add (k * 4)).block, (ad.add (k * 4)).off + 1, none⟩) = some (.int .i64 n) ∧ World.cell? w' (⟨(ad.add (k * 4)).block, (ad.add (k * 4)).off + 2, none⟩) = some (.string t) ∧ World.cell? w' (⟨(ad.add (k * 4)).block, (ad.add (k * 4)).off + 3, none⟩) = some (.slice ia l.length ic)))) (by kernel_rfl) ⟨Bag.cs3 (Bag.drew1 S2.out) 0 rfl, Bag.cs13 (Bag.drew1 S2.out) 1 rfl, HK.out _ (Bag.drew1 S2.out).old⟩ (fun hS => ?_)
        have S3 := Lib.hid (show Sl.Sep w _ [L4.boxR w.heap.size 26 #[.string name, .slice (some ad) N c, .int .i64 auto], L4.boxR (w.heap.size + 1) 60 #[.bool rl, .bool rh, .int .i64 lk, .int .i64 ln, .string lt, .int .i64 gk, .int .i64 gn, .string gt, .bool false, .bool st, .int .i64 ck, .int .i64 cn, .string ct]] from Bag.drew1 S2.out)
        clear S2
        generalize World.drew _ = w1 at hS S3 ⊢
        refine tk 0 rfl ?_
        try simp only [zp0, zp1, zp2, zp3, zp4]
        refine tk 1 rfl ?_
        try simp only [zp0, zp1, zp2, zp3, zp4]
        refine tk 2 rfl ?_
        try simp only [zp0, zp1, zp2, zp3, zp4]
        refine tk 3 rfl ?_
        try simp only [zp0, zp1, zp2, zp3, zp4]
        refine tk 4 rfl ?_
        try simp only [zp0, zp1, zp2, zp3, zp4]
        refine tk 5 rfl ?_
        try simp only [zp0, zp1, zp2, zp3, zp4]
        refine tk 6 rfl ?_
        try simp only [zp0, zp1, zp2, zp3, zp4]
        refine Reg.one_op (i := 7) rfl (by kernel_rfl) (fun K hK => ?_)
        go_simp
        go_at_call 129
        refine (HAH.out _).mono ?_
        rintro e w2 ⟨rfl, hb⟩
        have S4 := Lib.hid (S3.out.keep hb)
        clear S3
        clear hb
        go_wp2_with fail
        refine hK.out _ _ ⟨Bag.cs3 S4.out 0 rfl, Bag.cs13 S4.out 1 rfl, HK.out _ S4.out.old⟩ (fun hS => ?_)
        clear hK K
        try simp only [zp0, zp1, zp2, zp3, zp4]
        refine wpAnyH_done (by kernel_rfl) ?_ _
        have hh := Bag.cs3 S4.out 0 rfl
        have f0 := hh.1; have f1 := hh.2.1; have f2 := hh.2.2; clear hh
        have hh := Bag.cs13 S4.out 1 rfl
        have f3 := hh.1; have f4 := hh.2.1; have f5 := hh.2.2.1; have f6 := hh.2.2.2.1; have f7 := hh.2.2.2.2.1; have f8 := hh.2.2.2.2.2.1; have f9 := hh.2.2.2.2.2.2.1; have f10 := hh.2.2.2.2.2.2.2.1; have f11 := hh.2.2.2.2.2.2.2.2.1; have f12 := hh.2.2.2.2.2.2.2.2.2.1; have f13 := hh.2.2.2.2.2.2.2.2.2.2.1; have f14 := hh.2.2.2.2.2.2.2.2.2.2.2.1; have f15 := hh.2.2.2.2.2.2.2.2.2.2.2.2; clear hh
        have hh := HK.out _ S4.out.old
        have f16 := hh.1; have f17 := hh.2.1; have f18 := hh.2.2.1; have f19 := hh.2.2.2; clear hh
        cases b with
        | true =>
          go_wp2_with fail
          go_ret
          obtain ⟨hkl2, hke⟩ := List.getElem?_eq_some_iff.1 HC.out
          exact ⟨by rw [show nextI X (conI xs) = (k : Int) from nextI_some (next_first HBK.out hkl2 (by rw [hke]; exact HB.out) (fun j hj h => HA.out j hj h))]; rfl, S4.out.old⟩
        | false =>
          go_wp2_with fail
          go_roundw
          case rel => exact ⟨k + 1, by omega, by go_num, And.intro (fun j hj h => by
            by_cases e7 : j = k
            · subst e7; rw [(List.getElem?_eq_some_iff.1 HC.out).2]; exact HB.out
            · exact HA.out j hj (by omega)) S4.out⟩
          case measure => simp [intOf]; omega
      · skip
        have hh := Bag.cs3 S2.out 0 rfl
        have f0 := hh.1; have f1 := hh.2.1; have f2 := hh.2.2; clear hh
        have hh := Bag.cs13 S2.out 1 rfl
        have f3 := hh.1; have f4 := hh.2.1; have f5 := hh.2.2.1; have f6 := hh.2.2.2.1; have f7 := hh.2.2.2.2.1; have f8 := hh.2.2.2.2.2.1; have f9 := hh.2.2.2.2.2.2.1; have f10 := hh.2.2.2.2.2.2.2.1; have f11 := hh.2.2.2.2.2.2.2.2.1; have f12 := hh.2.2.2.2.2.2.2.2.2.1; have f13 := hh.2.2.2.2.2.2.2.2.2.2.1; have f14 := hh.2.2.2.2.2.2.2.2.2.2.2.1; have f15 := hh.2.2.2.2.2.2.2.2.2.2.2.2; clear hh
        go_wp2_with fail
        go_ret
        have hkN : k = N := by omega
        exact ⟨by rw [show nextI X (conI xs) = -1 from nextI_none (next_no (fun j hj => HA.out j hj (by have := HN.out; rw [conI_length] at hj; omega)))]; rfl, S2.out.old⟩
  | true =>
    have S1 := Lib.hid (show Sl.Sep w ((w.alloc (.cells #[.string name, .slice a N c, .int .i64 auto] 26)).alloc (.cells #[.bool rl, .bool rh, .int .i64 lk, .int .i64 ln, .string lt, .int .i64 gk, .int .i64 gn, .string gt, .bool true, .bool st, .int .i64 ck, .int .i64 cn, .string ct] 60)) [L4.boxR w.heap.size 26 #[.string name, .slice a N c, .int .i64 auto], L4.boxR (w.heap.size + 1) 60 #[.bool rl, .bool rh, .int .i64 lk, .int .i64 ln, .string lt, .int .i64 gk, .int .i64 gn, .string gt, .bool true, .bool st, .int .i64 ck, .int .i64 cn, .string ct]] from L4.push_box (L4.push_box (Sl.Sep.start w) 26 #[.string name, .slice a N c, .int .i64 auto] (w.heap.size) (by simp)) 60 #[.bool rl, .bool rh, .int .i64 lk, .int .i64 ln, .string lt, .int .i64 gk, .int .i64 gn, .string gt, .bool true, .bool st, .int .i64 ck, .int .i64 cn, .string ct] (w.heap.size + 1) (by simp))
    obtain ⟨wa, hwa⟩ : ∃ u, u = ((w.alloc (.cells #[.string name, .slice a N c, .int .i64 auto] 26)).alloc (.cells #[.bool rl, .bool rh, .int .i64 lk, .int .i64 ln, .string lt, .int .i64 gk, .int .i64 gn, .string gt, .bool true, .bool st, .int .i64 ck, .int .i64 cn, .string ct] 60)) := ⟨_, rfl⟩
    rw [← hwa] at S1
    go_enter Try.func93, Try.ntmps93
    go_upto_region 1 with fail
    rw [← hwa]
    clear hwa
    have hh := Bag.cs3 S1.out 0 rfl
    have f0 := hh.1; have f1 := hh.2.1; have f2 := hh.2.2; clear hh
    have hh := Bag.cs13 S1.out 1 rfl
    have f3 := hh.1; have f4 := hh.2.1; have f5 := hh.2.2.1; have f6 := hh.2.2.2.1; have f7 := hh.2.2.2.2.1; have f8 := hh.2.2.2.2.2.1; have f9 := hh.2.2.2.2.2.2.1; have f10 := hh.2.2.2.2.2.2.2.1; have f11 := hh.2.2.2.2.2.2.2.2.1; have f12 := hh.2.2.2.2.2.2.2.2.2.1; have f13 := hh.2.2.2.2.2.2.2.2.2.2.1; have f14 := hh.2.2.2.2.2.2.2.2.2.2.2.1; have f15 := hh.2.2.2.2.2.2.2.2.2.2.2.2; clear hh
    go_wp2_with fail
    clear f0 f1 f2 f3 f4 f5 f6 f7 f8 f9 f10 f11 f12 f13 f14 f15
    go_loopw [10] (fun i wr => ∃ k : Nat, k ≤ N ∧ i = .int .i64 k ∧ Hid ((∀ j (hj : j < (conI xs).length), N < j + 1 + k → okC X (conI xs)[j] = false) ∧ Sl.Sep w wr [L4.boxR w.heap.size 26 #[.string name, .slice a N c, .int .i64 auto], L4.boxR (w.heap.size + 1) 60 #[.bool rl, .bool rh, .int .i64 lk, .int .i64 ln, .string lt, .int .i64 gk, .int .i64 gn, .string gt, .bool true, .bool st, .int .i64 ck, .int .i64 cn, .string ct]])) (fun i _ => N - (intOf i).toNat)
    case atStart => exact ⟨0, Nat.zero_le _, rfl, And.intro (fun j hj h => absurd h (by have := HN.out; rw [conI_length] at hj; omega)) S1.out⟩
    case round =>
      obtain ⟨k, hk, rfl, hrel⟩ := hrel
      have HA := Lib.hid hrel.out.1
      have S2 := Lib.hid hrel.out.2
      clear hrel S1
      by_cases hlt : (k : Int) < (N : Int)
      · skip
        obtain ⟨e, he⟩ : ∃ e : Nat, (N : Int) - 1 - (k : Int) = (e : Int) := ⟨N - 1 - k, by omega⟩
        have heN : e + 1 + k = N := by omega
        have heI : (e : Int) < (N : Int) := by omega
        have hw1 : IntKind.i64.wrap ((N : Int) - 1) = (N : Int) - 1 := IntWalk.i64_in _ ⟨by omega, by omega⟩
        have hw2 : IntKind.i64.wrap (e : Int) = (e : Int) := IntWalk.i64_in _ ⟨by omega, by omega⟩
        have HEN := Lib.hid heN
        clear heN
        have hkl : e < xs.length := by have := HN.out; omega
        obtain ⟨ad, x, rfl, hx⟩ := readsI_some (HR.out _ S2.out.old) e hkl
        obtain ⟨⟨kd, n, t⟩, ia, ic, l⟩ := x
        have HK := Lib.hid (fun w' (h : Below w.heap.size w w') => readsI_at (HR.out _ h) e _ hx)
        try dsimp only at HK
        have HFI := Lib.hid (fit_at HF.out hx)
        try dsimp only [LI.con] at HFI
        have HC := Lib.hid (show (conI xs)[e]? = some (⟨⟨kd, n, t⟩, l⟩ : It) from con_of hx)
        clear hx
        obtain ⟨b, hb⟩ : ∃ b, okP X ⟨kd, n, t⟩ = b := ⟨_, rfl⟩
        have HAH := fun w => isAhead_any X ⟨kd, n, t⟩ HFX.out (by have : t.size ≤ 1099511627776 := HFI.out.text; show t.size ≤ _; omega) w
        rw [hb, HXV.out] at HAH
        replace HAH := Lib.hid HAH
        have HB := Lib.hid (show okC X ⟨⟨kd, n, t⟩, l⟩ = b from hb)
        dsimp only [L4.K.v] at HAH
        clear hb
        have hh := Bag.cs3 S2.out 0 rfl
        have f0 := hh.1; have f1 := hh.2.1; have f2 := hh.2.2; clear hh
        have hh := Bag.cs13 S2.out 1 rfl
        have f3 := hh.1; have f4 := hh.2.1; have f5 := hh.2.2.1; have f6 := hh.2.2.2.1; have f7 := hh.2.2.2.2.1; have f8 := hh.2.2.2.2.2.1; have f9 := hh.2.2.2.2.2.2.1; have f10 := hh.2.2.2.2.2.2.2.1; have f11 := hh.2.2.2.2.2.2.2.2.1; have f12 := hh.2.2.2.2.2.2.2.2.2.1; have f13 := hh.2.2.2.2.2.2.2.2.2.2.1; have f14 := hh.2.2.2.2.2.2.2.2.2.2.2.1; have f15 := hh.2.2.2.2.2.2.2.2.2.2.2.2; clear hh
        have hh := HK.out _ S2.out.old
        have f16 := hh.1; have f17 := hh.2.1; have f18 := hh.2.2.1; have f19 := hh.2.2.2; clear hh
        go_upto_region 7 with fail
        clear f0 f1 f2 f3 f4 f5 f6 f7 f8 f9 f10 f11 f12 f13 f14 f15 f16 f17 f18 f19
        refine wp_region_held_drew (S := (fun w' => (World.cell? w' ⟨w.heap.size, 0, none⟩ = some (.string name) ∧ World.cell? w' ⟨w.heap.size, 1, none⟩ = some (.slice (some ad) N c) ∧ World.cell? w' ⟨w.heap.size, 2, none⟩ = some (.int .i64 auto)) ∧ (World.cell? w' ⟨w.heap.size + 1, 0, none⟩ = some (.bool rl) ∧ World.cell? w' ⟨w.heap.size + 1, 1, none⟩ = some (.bool rh) ∧ World.cell? w' ⟨w.heap.size + 1, 2, none⟩ = some (.int .i64 lk) ∧ World.cell? w' ⟨w.heap.size + 1, 3, none⟩ = some (.int .i64 ln) ∧ World.cell? w' ⟨w.heap.size + 1, 4, none⟩ = some (.string lt) ∧ World.cell? w' ⟨w.heap.size + 1, 5, none⟩ = some (.int .i64 gk) ∧ World.cell? w' ⟨w.heap.size + 1, 6, none⟩ = some (.int .i64 gn) ∧ World.cell? w' ⟨w.heap.size + 1, 7, none⟩ = some (.string gt) ∧ World.cell? w' ⟨w.heap.size + 1, 8, none⟩ = some (.bool true) ∧ World.cell? w' ⟨w.heap.size + 1, 9, none⟩ = some (.bool st) ∧ World.cell? w' ⟨w.heap.size + 1, 10, none⟩ = some (.int .i64 ck) ∧ World.cell? w' ⟨w.heap.size + 1, 11, none⟩ = some (.int .i64 cn) ∧ World.cell? w' ⟨w.heap.size + 1, 12, none⟩ = some (.string ct)) ∧ (World.cell? w' (ad.add (e * 4)) = some (.int .i64 kd) ∧ World.cell? w' (⟨(ad.add (e * 4)).block, (ad.add (e * 4)).off + 1, none⟩) = some (.int .i64 n) ∧ World.cell? w' (⟨(ad.add (e * 4)).block, (ad.add (e * 4)).off + 2, none⟩) = some (.string t) ∧ World.cell? w' (⟨(ad.add (e * 4)).block, (ad.add (e * 4)).off + 3, none⟩) = some (.slice ia l.length ic)))) (by kernel_rfl) ⟨Bag.cs3 (Bag.drew1 S2.out) 0 rfl, Bag.cs13 (Bag.drew1 S2.out) 1 rfl, HK.out _ (Bag.drew1 S2.out).old⟩ (fun hS => ?_)
        have S3 := Lib.hid (show Sl.Sep w _ [L4.boxR w.heap.size 26 #[.string name, .slice (some ad) N c, .int .i64 auto], L4.boxR (w.heap.size + 1) 60 #[.bool rl, .bool rh, .int .i64 lk, .int .i64 ln, .string lt, .int .i64 gk, .int .i64 gn, .string gt, .bool true, .bool st, .int .i64 ck, .int .i64 cn, .string ct]] from Bag.drew1 S2.out)
        clear S2
        generalize World.drew _ = w1 at hS S3 ⊢
        refine tk 0 rfl ?_
        try simp only [zp0, zp1, zp2, zp3, zp4]
        refine tk 1 rfl ?_
        try simp only [zp0, zp1, zp2, zp3, zp4]
        refine tk 2 rfl ?_
        try simp only [zp0, zp1, zp2, zp3, zp4]
        refine tk 3 rfl ?_
        try simp only [zp0, zp1, zp2, zp3, zp4]
        refine tk 4 rfl ?_
        try simp only [zp0, zp1, zp2, zp3, zp4]
        refine tk 5 rfl ?_
        try simp only [zp0, zp1, zp2, zp3, zp4]
        refine tk 6 rfl ?_
        try simp only [zp0, zp1, zp2, zp3, zp4]
        refine Reg.one_op (i := 7) rfl (by kernel_rfl) (fun K hK => ?_)
        go_simp
        go_at_call 129
        refine (HAH.out _).mono ?_
        rintro e w2 ⟨rfl, hb⟩
        have S4 := Lib.hid (S3.out.keep hb)
        clear S3
        clear hb
        go_wp2_with fail
        refine hK.out _ _ ⟨Bag.cs3 S4.out 0 rfl, Bag.cs13 S4.out 1 rfl, HK.out _ S4.out.old⟩ (fun hS => ?_)
        clear hK K
        try simp only [zp0, zp1, zp2, zp3, zp4]
        refine wpAnyH_done (by kernel_rfl) ?_ _
        have hh := Bag.cs3 S4.out 0 rfl
        have f0 := hh.1; have f1 := hh.2.1; have f2 := hh.2.2; clear hh
        have hh := Bag.cs13 S4.out 1 rfl
        have f3 := hh.1; have f4 := hh.2.1; have f5 := hh.2.2.1; have f6 := hh.2.2.2.1; have f7 := hh.2.2.2.2.1; have f8 := hh.2.2.2.2.2.1; have f9 := hh.2.2.2.2.2.2.1; have f10 := hh.2.2.2.2.2.2.2.1; have f11 := hh.2.2.2.2.2.2.2.2.1; have f12 := hh.2.2.2.2.2.2.2.2.2.1; have f13 := hh.2.2.2.2.2.2.2.2.2.2.1; have f14 := hh.2.2.2.2.2.2.2.2.2.2.2.1; have f15 := hh.2.2.2.2.2.2.2.2.2.2.2.2; clear hh
        have hh := HK.out _ S4.out.old
        have f16 := hh.1; have f17 := hh.2.1; have f18 := hh.2.2.1; have f19 := hh.2.2.2; clear hh
        cases b with
        | true =>
          go_wp2_with fail
          go_ret
          obtain ⟨hkl2, hke⟩ := List.getElem?_eq_some_iff.1 HC.out
          exact ⟨by rw [show nextI X (conI xs) = (e : Int) from nextI_some (next_last HBK.out hkl2 (by rw [hke]; exact HB.out) (fun j hj h => HA.out j hj (by have := HEN.out; omega)))]; rfl, S4.out.old⟩
        | false =>
          go_wp2_with fail
          go_roundw
          case rel => exact ⟨k + 1, by omega, by go_num, And.intro (fun j hj h => by
            by_cases e7 : j = e
            · subst e7; rw [(List.getElem?_eq_some_iff.1 HC.out).2]; exact HB.out
            · exact HA.out j hj (by have := HEN.out; omega)) S4.out⟩
          case measure => simp [intOf]; omega
      · skip
        have hh := Bag.cs3 S2.out 0 rfl
        have f0 := hh.1; have f1 := hh.2.1; have f2 := hh.2.2; clear hh
        have hh := Bag.cs13 S2.out 1 rfl
        have f3 := hh.1; have f4 := hh.2.1; have f5 := hh.2.2.1; have f6 := hh.2.2.2.1; have f7 := hh.2.2.2.2.1; have f8 := hh.2.2.2.2.2.1; have f9 := hh.2.2.2.2.2.2.1; have f10 := hh.2.2.2.2.2.2.2.1; have f11 := hh.2.2.2.2.2.2.2.2.1; have f12 := hh.2.2.2.2.2.2.2.2.2.1; have f13 := hh.2.2.2.2.2.2.2.2.2.2.1; have f14 := hh.2.2.2.2.2.2.2.2.2.2.2.1; have f15 := hh.2.2.2.2.2.2.2.2.2.2.2.2; clear hh
        go_wp2_with fail
        go_ret
        have hkN : k = N := by omega
        exact ⟨by rw [show nextI X (conI xs) = -1 from nextI_none (next_no (fun j hj => HA.out j hj (by have := HN.out; rw [conI_length] at hj; omega)))]; rfl, S2.out.old⟩
set_option maxHeartbeats 16000000 in
theorem cursorNext_any (y : LS) (x : Cu) (hf : FitS y.con) (hx : FitC x) (w : World) (hr : RowsRd w w.heap.size y.rows) :
    Calls Try.prog 36 #[y.v, x.v] w (GaveC w (curX x y.con.items) (curI x y.con.items) (curB x y.con.items)) := by
  have HNX := Lib.hid (fun w' (h : Below w.heap.size w w') => nextItem_any y x hf hx w' ((hr.below h).more h.size))
  obtain ⟨X, hX⟩ : ∃ X : Cu, X = x := ⟨_, rfl⟩
  rw [← hX] at HNX ⊢
  obtain ⟨⟨rl, rh, ⟨lk, ln, lt⟩, ⟨gk, gn, gt⟩⟩, bk, st, ⟨ck, cn, ct⟩⟩ := x
  have HXX := Lib.hid hX
  clear hx
  obtain ⟨name, a, c, xs, auto⟩ := y
  have HR := Lib.hid (fun w' (h : Below w.heap.size w w') => LS.outer (hr.below h))
  have HX := Lib.hid (fun w' (h : Below w.heap.size w w') => (LS.inner (hr.below h)).more h.size)
  have HF := Lib.hid hf.items
  have HNM := Lib.hid hf.name
  have hl := hf.len
  simp only [LS.con, conI_length] at hl
  dsimp only [LS.con] at HR HX HF HNM
  try unfold LS.v LS.cells LS.con
  try dsimp only
  obtain ⟨N, hN⟩ : ∃ n, n = xs.length := ⟨_, rfl⟩
  rw [← hN] at hl ⊢
  have hl' : (N : Int) ≤ 1048576 := by omega
  have HN := Lib.hid hN
  clear hN hr hf
  have hXv : X.v = .agg #[.bool rl, .bool rh, .int .i64 lk, .int .i64 ln, .string lt, .int .i64 gk, .int .i64 gn, .string gt, .bool bk, .bool st, .int .i64 ck, .int .i64 cn, .string ct] := by rw [HXX.out]; rfl
  rw [hXv] at HNX ⊢
  clear hXv hX
  dsimp only [LS.v, LS.cells, LS.con] at HNX
  rw [← HN.out] at HNX
  cases hno : nextO X (conI xs) with
  | none =>
    rw [nextI_none hno] at HNX
    have HE := Lib.hid (cur_none hno)
    clear hno
    have S1 := Lib.hid (show Sl.Sep w ((((w.alloc (.cells #[.string name, .slice a N c, .int .i64 auto] 26)).alloc (.cells #[.bool rl, .bool rh, .int .i64 lk, .int .i64 ln, .string lt, .int .i64 gk, .int .i64 gn, .string gt, .bool bk, .bool st, .int .i64 ck, .int .i64 cn, .string ct] 60)).alloc (.cells #[.bool false, .bool false, .int .i64 0, .int .i64 0, .string ⟨#[]⟩, .int .i64 0, .int .i64 0, .string ⟨#[]⟩, .bool false, .bool false, .int .i64 0, .int .i64 0, .string ⟨#[]⟩] 60)).alloc (.cells #[.int .i64 0, .int .i64 0, .string ⟨#[]⟩, .slice none 0 0] 43)) [L4.boxR w.heap.size 26 #[.string name, .slice a N c, .int .i64 auto], L4.boxR (w.heap.size + 1) 60 #[.bool rl, .bool rh, .int .i64 lk, .int .i64 ln, .string lt, .int .i64 gk, .int .i64 gn, .string gt, .bool bk, .bool st, .int .i64 ck, .int .i64 cn, .string ct], L4.boxR (w.heap.size + 1 + 1) 60 #[.bool false, .bool false, .int .i64 0, .int .i64 0, .string ⟨#[]⟩, .int .i64 0, .int .i64 0, .string ⟨#[]⟩, .bool false, .bool false, .int .i64 0, .int .i64 0, .string ⟨#[]⟩], L4.boxR (w.heap.size + 1 + 1 + 1) 43 #[.int .i64 0, .int .i64 0, .string ⟨#[]⟩, .slice none 0 0]] from L4.push_box (L4.push_box (L4.push_box (L4.push_box (Sl.Sep.start w) 26 #[.string name, .slice a N c, .int .i64 auto] (w.heap.size) (by simp)) 60 #[.bool rl, .bool rh, .int .i64 lk, .int .i64 ln, .string lt, .int .i64 gk, .int .i64 gn, .string gt, .bool bk, .bool st, .int .i64 ck, .int .i64 cn, .string ct] (w.heap.size + 1) (by simp)) 60 #[.bool false, .bool false, .int .i64 0, .int .i64 0, .string ⟨#[]⟩, .int .i64 0, .int .i64 0, .string ⟨#[]⟩, .bool false, .bool false, .int .i64 0, .int .i64 0, .string ⟨#[]⟩] (w.heap.size + 1 + 1) (by simp)) 43 #[.int .i64 0, .int .i64 0, .string ⟨#[]⟩, .slice none 0 0] (w.heap.size + 1 + 1 + 1) (by simp))
    obtain ⟨wa, hwa⟩ : ∃ u, u = ((((w.alloc (.cells #[.string name, .slice a N c, .int .i64 auto] 26)).alloc (.cells #[.bool rl, .bool rh, .int .i64 lk, .int .i64 ln, .string lt, .int .i64 gk, .int .i64 gn, .string gt, .bool bk, .bool st, .int .i64 ck, .int .i64 cn, .string ct] 60)).alloc (.cells #[.bool false, .bool false, .int .i64 0, .int .i64 0, .string ⟨#[]⟩, .int .i64 0, .int .i64 0, .string ⟨#[]⟩, .bool false, .bool false, .int .i64 0, .int .i64 0, .string ⟨#[]⟩] 60)).alloc (.cells #[.int .i64 0, .int .i64 0, .string ⟨#[]⟩, .slice none 0 0] 43)) := ⟨_, rfl⟩
    rw [← hwa] at S1
    go_enter Try.func36, Try.ntmps36
    go_upto_region 1 with fail
    rw [← hwa]
    clear hwa
    have hh := Bag.cs3 S1.out 0 rfl
    have f0 := hh.1; have f1 := hh.2.1; have f2 := hh.2.2; clear hh
    have hh := Bag.cs13 S1.out 1 rfl
    have f3 := hh.1; have f4 := hh.2.1; have f5 := hh.2.2.1; have f6 := hh.2.2.2.1; have f7 := hh.2.2.2.2.1; have f8 := hh.2.2.2.2.2.1; have f9 := hh.2.2.2.2.2.2.1; have f10 := hh.2.2.2.2.2.2.2.1; have f11 := hh.2.2.2.2.2.2.2.2.1; have f12 := hh.2.2.2.2.2.2.2.2.2.1; have f13 := hh.2.2.2.2.2.2.2.2.2.2.1; have f14 := hh.2.2.2.2.2.2.2.2.2.2.2.1; have f15 := hh.2.2.2.2.2.2.2.2.2.2.2.2; clear hh
    have hh := Bag.cs13 S1.out 2 rfl
    have f16 := hh.1; have f17 := hh.2.1; have f18 := hh.2.2.1; have f19 := hh.2.2.2.1; have f20 := hh.2.2.2.2.1; have f21 := hh.2.2.2.2.2.1; have f22 := hh.2.2.2.2.2.2.1; have f23 := hh.2.2.2.2.2.2.2.1; have f24 := hh.2.2.2.2.2.2.2.2.1; have f25 := hh.2.2.2.2.2.2.2.2.2.1; have f26 := hh.2.2.2.2.2.2.2.2.2.2.1; have f27 := hh.2.2.2.2.2.2.2.2.2.2.2.1; have f28 := hh.2.2.2.2.2.2.2.2.2.2.2.2; clear hh
    have hh := Bag.cs4 S1.out 3 rfl
    have f29 := hh.1; have f30 := hh.2.1; have f31 := hh.2.2.1; have f32 := hh.2.2.2; clear hh
    go_wp2_with fail
    go_at_call 93
    refine (HNX.out _ S1.out.old).mono ?_
    rintro e w1 ⟨rfl, hb⟩
    clear f0 f1 f2 f3 f4 f5 f6 f7 f8 f9 f10 f11 f12 f13 f14 f15 f16 f17 f18 f19 f20 f21 f22 f23 f24 f25 f26 f27 f28 f29 f30 f31 f32
    have S2 := Lib.hid (S1.out.keep hb)
    clear S1
    clear hb
    have hh := Bag.cs3 S2.out 0 rfl
    have f0 := hh.1; have f1 := hh.2.1; have f2 := hh.2.2; clear hh
    have hh := Bag.cs13 S2.out 1 rfl
    have f3 := hh.1; have f4 := hh.2.1; have f5 := hh.2.2.1; have f6 := hh.2.2.2.1; have f7 := hh.2.2.2.2.1; have f8 := hh.2.2.2.2.2.1; have f9 := hh.2.2.2.2.2.2.1; have f10 := hh.2.2.2.2.2.2.2.1; have f11 := hh.2.2.2.2.2.2.2.2.1; have f12 := hh.2.2.2.2.2.2.2.2.2.1; have f13 := hh.2.2.2.2.2.2.2.2.2.2.1; have f14 := hh.2.2.2.2.2.2.2.2.2.2.2.1; have f15 := hh.2.2.2.2.2.2.2.2.2.2.2.2; clear hh
    have hh := Bag.cs13 S2.out 2 rfl
    have f16 := hh.1; have f17 := hh.2.1; have f18 := hh.2.2.1; have f19 := hh.2.2.2.1; have f20 := hh.2.2.2.2.1; have f21 := hh.2.2.2.2.2.1; have f22 := hh.2.2.2.2.2.2.1; have f23 := hh.2.2.2.2.2.2.2.1; have f24 := hh.2.2.2.2.2.2.2.2.1; have f25 := hh.2.2.2.2.2.2.2.2.2.1; have f26 := hh.2.2.2.2.2.2.2.2.2.2.1; have f27 := hh.2.2.2.2.2.2.2.2.2.2.2.1; have f28 := hh.2.2.2.2.2.2.2.2.2.2.2.2; clear hh
    have hh := Bag.cs4 S2.out 3 rfl
    have f29 := hh.1; have f30 := hh.2.1; have f31 := hh.2.2.1; have f32 := hh.2.2.2; clear hh
    have hh := Bag.fs13 S2.out 2 rfl
    have z0 := hh.1; have z1 := hh.2.1; have z2 := hh.2.2.1; have z3 := hh.2.2.2.1; have z4 := hh.2.2.2.2.1; have z5 := hh.2.2.2.2.2.1; have z6 := hh.2.2.2.2.2.2.1; have z7 := hh.2.2.2.2.2.2.2.1; have z8 := hh.2.2.2.2.2.2.2.2.1; have z9 := hh.2.2.2.2.2.2.2.2.2.1; have z10 := hh.2.2.2.2.2.2.2.2.2.2.1; have z11 := hh.2.2.2.2.2.2.2.2.2.2.2.1; have z12 := hh.2.2.2.2.2.2.2.2.2.2.2.2; clear hh
    have y0 := Bag.free_at S2.out 3 rfl 0
    have y1 := Bag.free_at S2.out 3 rfl 1
    have y2 := Bag.free_at S2.out 3 rfl 2
    have y3 := Bag.free_at S2.out 3 rfl 3
    go_wp2_with fail
    clear f0 f1 f2 f3 f4 f5 f6 f7 f8 f9 f10 f11 f12 f13 f14 f15 f16 f17 f18 f19 f20 f21 f22 f23 f24 f25 f26 f27 f28 f29 f30 f31 f32 z0 z1 z2 z3 z4 z5 z6 z7 z8 z9 z10 z11 z12 y0 y1 y2 y3
    have S3 := Lib.hid (show Sl.Sep w _ [L4.boxR w.heap.size 26 #[.string name, .slice a N c, .int .i64 auto], L4.boxR (w.heap.size + 1) 60 #[.bool rl, .bool rh, .int .i64 lk, .int .i64 ln, .string lt, .int .i64 gk, .int .i64 gn, .string gt, .bool bk, .bool st, .int .i64 ck, .int .i64 cn, .string ct], L4.boxR (w.heap.size + 1 + 1) 60 #[.bool rl, .bool rh, .int .i64 lk, .int .i64 ln, .string ⟨#[]⟩, .int .i64 0, .int .i64 0, .string ⟨#[]⟩, .bool false, .bool false, .int .i64 0, .int .i64 0, .string ⟨#[]⟩], L4.boxR (w.heap.size + 1 + 1 + 1) 43 #[.int .i64 0, .int .i64 0, .string ⟨#[]⟩, .slice none 0 0]] from L5.put_box5 (L5.put_box5 (L5.put_box5 (L5.put_box5 (S2.out) 2 rfl 0 (.bool rl)) 2 rfl 1 (.bool rh)) 2 rfl 2 (.int .i64 lk)) 2 rfl 3 (.int .i64 ln))
    clear S2
    have S4 := Lib.hid (show Sl.Sep w _ [L4.boxR w.heap.size 26 #[.string name, .slice a N c, .int .i64 auto], L4.boxR (w.heap.size + 1) 60 #[.bool rl, .bool rh, .int .i64 lk, .int .i64 ln, .string lt, .int .i64 gk, .int .i64 gn, .string gt, .bool bk, .bool st, .int .i64 ck, .int .i64 cn, .string ct], L4.boxR (w.heap.size + 1 + 1) 60 #[.bool rl, .bool rh, .int .i64 lk, .int .i64 ln, .string lt, .int .i64 gk, .int .i64 gn, .string gt, .bool false, .bool false, .int .i64 0, .int .i64 0, .string ⟨#[]⟩], L4.boxR (w.heap.size + 1 + 1 + 1) 43 #[.int .i64 0, .int .i64 0, .string ⟨#[]⟩, .slice none 0 0]] from L5.put_box5 (L5.put_box5 (L5.put_box5 (L5.put_box5 (S3.out) 2 rfl 4 (.string lt)) 2 rfl 5 (.int .i64 gk)) 2 rfl 6 (.int .i64 gn)) 2 rfl 7 (.string gt))
    clear S3
    have S5 := Lib.hid (show Sl.Sep w _ [L4.boxR w.heap.size 26 #[.string name, .slice a N c, .int .i64 auto], L4.boxR (w.heap.size + 1) 60 #[.bool rl, .bool rh, .int .i64 lk, .int .i64 ln, .string lt, .int .i64 gk, .int .i64 gn, .string gt, .bool bk, .bool st, .int .i64 ck, .int .i64 cn, .string ct], L4.boxR (w.heap.size + 1 + 1) 60 #[.bool rl, .bool rh, .int .i64 lk, .int .i64 ln, .string lt, .int .i64 gk, .int .i64 gn, .string gt, .bool bk, .bool st, .int .i64 ck, .int .i64 cn, .string ⟨#[]⟩], L4.boxR (w.heap.size + 1 + 1 + 1) 43 #[.int .i64 0, .int .i64 0, .string ⟨#[]⟩, .slice none 0 0]] from L5.put_box5 (L5.put_box5 (L5.put_box5 (L5.put_box5 (S4.out) 2 rfl 8 (.bool bk)) 2 rfl 9 (.bool st)) 2 rfl 10 (.int .i64 ck)) 2 rfl 11 (.int .i64 cn))
    clear S4
    have S6 := Lib.hid (show Sl.Sep w _ [L4.boxR w.heap.size 26 #[.string name, .slice a N c, .int .i64 auto], L4.boxR (w.heap.size + 1) 60 #[.bool rl, .bool rh, .int .i64 lk, .int .i64 ln, .string lt, .int .i64 gk, .int .i64 gn, .string gt, .bool bk, .bool st, .int .i64 ck, .int .i64 cn, .string ct], L4.boxR (w.heap.size + 1 + 1) 60 #[.bool rl, .bool rh, .int .i64 lk, .int .i64 ln, .string lt, .int .i64 gk, .int .i64 gn, .string gt, .bool bk, .bool st, .int .i64 ck, .int .i64 cn, .string ct], L4.boxR (w.heap.size + 1 + 1 + 1) 43 #[.int .i64 0, .int .i64 0, .string ⟨#[]⟩, .slice none 0 0]] from L5.put_box5 (S5.out) 2 rfl 12 (.string ct))
    clear S5
    have S7 := Lib.hid (show Sl.Sep w _ [L4.boxR w.heap.size 26 #[.string name, .slice a N c, .int .i64 auto], L4.boxR (w.heap.size + 1) 60 #[.bool rl, .bool rh, .int .i64 lk, .int .i64 ln, .string lt, .int .i64 gk, .int .i64 gn, .string gt, .bool bk, .bool st, .int .i64 ck, .int .i64 cn, .string ct], L4.boxR (w.heap.size + 1 + 1) 60 #[.bool rl, .bool rh, .int .i64 lk, .int .i64 ln, .string lt, .int .i64 gk, .int .i64 gn, .string gt, .bool bk, .bool st, .int .i64 ck, .int .i64 cn, .string ct], L4.boxR (w.heap.size + 1 + 1 + 1) 43 #[.int .i64 0, .int .i64 0, .string ⟨#[]⟩, .slice none 0 0]] from L5.put_box5 (L5.put_box5 (L5.put_box5 (L5.put_box5 (S6.out) 3 rfl 0 (.int .i64 0)) 3 rfl 1 (.int .i64 0)) 3 rfl 2 (.string ⟨#[]⟩)) 3 rfl 3 (.slice none 0 0))
    clear S6
    have hh := Bag.cs13 S7.out 2 rfl
    have f0 := hh.1; have f1 := hh.2.1; have f2 := hh.2.2.1; have f3 := hh.2.2.2.1; have f4 := hh.2.2.2.2.1; have f5 := hh.2.2.2.2.2.1; have f6 := hh.2.2.2.2.2.2.1; have f7 := hh.2.2.2.2.2.2.2.1; have f8 := hh.2.2.2.2.2.2.2.2.1; have f9 := hh.2.2.2.2.2.2.2.2.2.1; have f10 := hh.2.2.2.2.2.2.2.2.2.2.1; have f11 := hh.2.2.2.2.2.2.2.2.2.2.2.1; have f12 := hh.2.2.2.2.2.2.2.2.2.2.2.2; clear hh
    have hh := Bag.cs4 S7.out 3 rfl
    have f13 := hh.1; have f14 := hh.2.1; have f15 := hh.2.2.1; have f16 := hh.2.2.2; clear hh
    refine bodyPost_ret (v := .tuple #[.agg #[.bool rl, .bool rh, .int .i64 lk, .int .i64 ln, .string lt, .int .i64 gk, .int .i64 gn, .string gt, .bool bk, .bool st, .int .i64 ck, .int .i64 cn, .string ct], .agg #[.int .i64 0, .int .i64 0, .string ⟨#[]⟩, .slice none 0 0], .bool false]) (by simp [results, Try.results36, go_sem, *]) rfl ?_
    clear f0 f1 f2 f3 f4 f5 f6 f7 f8 f9 f10 f11 f12 f13 f14 f15 f16
    refine ⟨none, 0, ?_, ?_, S7.out.old⟩
    · rw [HE.out.1, HE.out.2.1, HE.out.2.2, HXX.out]; rfl
    · rw [HE.out.2.1]; exact BagOwn.one (OwnV.nil _ _ _ _)
  | some k =>
    rw [nextI_some hno] at HNX
    have hkl : k < xs.length := by obtain ⟨h, -⟩ := nextO_lt hno; rw [conI_length] at h; exact h
    have hkN : (k : Int) < (N : Int) := by have := HN.out; omega
    have hk0 : ¬ (k : Int) < 0 := by omega
    have HNO := Lib.hid hno
    clear hno
    have S1 := Lib.hid (show Sl.Sep w ((((w.alloc (.cells #[.string name, .slice a N c, .int .i64 auto] 26)).alloc (.cells #[.bool rl, .bool rh, .int .i64 lk, .int .i64 ln, .string lt, .int .i64 gk, .int .i64 gn, .string gt, .bool bk, .bool st, .int .i64 ck, .int .i64 cn, .string ct] 60)).alloc (.cells #[.bool false, .bool false, .int .i64 0, .int .i64 0, .string ⟨#[]⟩, .int .i64 0, .int .i64 0, .string ⟨#[]⟩, .bool false, .bool false, .int .i64 0, .int .i64 0, .string ⟨#[]⟩] 60)).alloc (.cells #[.int .i64 0, .int .i64 0, .string ⟨#[]⟩, .slice none 0 0] 43)) [L4.boxR w.heap.size 26 #[.string name, .slice a N c, .int .i64 auto], L4.boxR (w.heap.size + 1) 60 #[.bool rl, .bool rh, .int .i64 lk, .int .i64 ln, .string lt, .int .i64 gk, .int .i64 gn, .string gt, .bool bk, .bool st, .int .i64 ck, .int .i64 cn, .string ct], L4.boxR (w.heap.size + 1 + 1) 60 #[.bool false, .bool false, .int .i64 0, .int .i64 0, .string ⟨#[]⟩, .int .i64 0, .int .i64 0, .string ⟨#[]⟩, .bool false, .bool false, .int .i64 0, .int .i64 0, .string ⟨#[]⟩], L4.boxR (w.heap.size + 1 + 1 + 1) 43 #[.int .i64 0, .int .i64 0, .string ⟨#[]⟩, .slice none 0 0]] from L4.push_box (L4.push_box (L4.push_box (L4.push_box (Sl.Sep.start w) 26 #[.string name, .slice a N c, .int .i64 auto] (w.heap.size) (by simp)) 60 #[.bool rl, .bool rh, .int .i64 lk, .int .i64 ln, .string lt, .int .i64 gk, .int .i64 gn, .string gt, .bool bk, .bool st, .int .i64 ck, .int .i64 cn, .string ct] (w.heap.size + 1) (by simp)) 60 #[.bool false, .bool false, .int .i64 0, .int .i64 0, .string ⟨#[]⟩, .int .i64 0, .int .i64 0, .string ⟨#[]⟩, .bool false, .bool false, .int .i64 0, .int .i64 0, .string ⟨#[]⟩] (w.heap.size + 1 + 1) (by simp)) 43 #[.int .i64 0, .int .i64 0, .string ⟨#[]⟩, .slice none 0 0] (w.heap.size + 1 + 1 + 1) (by simp))
    obtain ⟨wa, hwa⟩ : ∃ u, u = ((((w.alloc (.cells #[.string name, .slice a N c, .int .i64 auto] 26)).alloc (.cells #[.bool rl, .bool rh, .int .i64 lk, .int .i64 ln, .string lt, .int .i64 gk, .int .i64 gn, .string gt, .bool bk, .bool st, .int .i64 ck, .int .i64 cn, .string ct] 60)).alloc (.cells #[.bool false, .bool false, .int .i64 0, .int .i64 0, .string ⟨#[]⟩, .int .i64 0, .int .i64 0, .string ⟨#[]⟩, .bool false, .bool false, .int .i64 0, .int .i64 0, .string ⟨#[]⟩] 60)).alloc (.cells #[.int .i64 0, .int .i64 0, .string ⟨#[]⟩, .slice none 0 0] 43)) := ⟨_, rfl⟩
    rw [← hwa] at S1
    go_enter Try.func36, Try.ntmps36
    go_upto_region 1 with fail
    rw [← hwa]
    clear hwa
    have hh := Bag.cs3 S1.out 0 rfl
    have f0 := hh.1; have f1 := hh.2.1; have f2 := hh.2.2; clear hh
    have hh := Bag.cs13 S1.out 1 rfl
    have f3 := hh.1; have f4 := hh.2.1; have f5 := hh.2.2.1; have f6 := hh.2.2.2.1; have f7 := hh.2.2.2.2.1; have f8 := hh.2.2.2.2.2.1; have f9 := hh.2.2.2.2.2.2.1; have f10 := hh.2.2.2.2.2.2.2.1; have f11 := hh.2.2.2.2.2.2.2.2.1; have f12 := hh.2.2.2.2.2.2.2.2.2.1; have f13 := hh.2.2.2.2.2.2.2.2.2.2.1; have f14 := hh.2.2.2.2.2.2.2.2.2.2.2.1; have f15 := hh.2.2.2.2.2.2.2.2.2.2.2.2; clear hh
    have hh := Bag.cs13 S1.out 2 rfl
    have f16 := hh.1; have f17 := hh.2.1; have f18 := hh.2.2.1; have f19 := hh.2.2.2.1; have f20 := hh.2.2.2.2.1; have f21 := hh.2.2.2.2.2.1; have f22 := hh.2.2.2.2.2.2.1; have f23 := hh.2.2.2.2.2.2.2.1; have f24 := hh.2.2.2.2.2.2.2.2.1; have f25 := hh.2.2.2.2.2.2.2.2.2.1; have f26 := hh.2.2.2.2.2.2.2.2.2.2.1; have f27 := hh.2.2.2.2.2.2.2.2.2.2.2.1; have f28 := hh.2.2.2.2.2.2.2.2.2.2.2.2; clear hh
    have hh := Bag.cs4 S1.out 3 rfl
    have f29 := hh.1; have f30 := hh.2.1; have f31 := hh.2.2.1; have f32 := hh.2.2.2; clear hh
    obtain ⟨ad, x, rfl, hx⟩ := readsI_some (HR.out _ S1.out.old) k hkl
    obtain ⟨⟨kd, n, t⟩, ia, ic, l⟩ := x
    have HK := Lib.hid (fun w' (h : Below w.heap.size w w') => readsI_at (HR.out _ h) k _ hx)
    try dsimp only at HK
    have HFI := Lib.hid (fit_at HF.out hx)
    try dsimp only [LI.con] at HFI
    have HCU := Lib.hid (cur_some HNO.out (con_of hx))
    have HCI := Lib.hid (fun w' (h : Below w.heap.size w w') => copyItem_any kd n t ia ic l HFI.out.len w' (((HX.out _ h).at_ (rowsI_mem hx)).reads))
    try dsimp only at HCI
    clear hx
    clear f0 f1 f2 f3 f4 f5 f6 f7 f8 f9 f10 f11 f12 f13 f14 f15 f16 f17 f18 f19 f20 f21 f22 f23 f24 f25 f26 f27 f28 f29 f30 f31 f32
    have hh := Bag.cs3 S1.out 0 rfl
    have f0 := hh.1; have f1 := hh.2.1; have f2 := hh.2.2; clear hh
    have hh := Bag.cs13 S1.out 1 rfl
    have f3 := hh.1; have f4 := hh.2.1; have f5 := hh.2.2.1; have f6 := hh.2.2.2.1; have f7 := hh.2.2.2.2.1; have f8 := hh.2.2.2.2.2.1; have f9 := hh.2.2.2.2.2.2.1; have f10 := hh.2.2.2.2.2.2.2.1; have f11 := hh.2.2.2.2.2.2.2.2.1; have f12 := hh.2.2.2.2.2.2.2.2.2.1; have f13 := hh.2.2.2.2.2.2.2.2.2.2.1; have f14 := hh.2.2.2.2.2.2.2.2.2.2.2.1; have f15 := hh.2.2.2.2.2.2.2.2.2.2.2.2; clear hh
    have hh := Bag.cs13 S1.out 2 rfl
    have f16 := hh.1; have f17 := hh.2.1; have f18 := hh.2.2.1; have f19 := hh.2.2.2.1; have f20 := hh.2.2.2.2.1; have f21 := hh.2.2.2.2.2.1; have f22 := hh.2.2.2.2.2.2.1; have f23 := hh.2.2.2.2.2.2.2.1; have f24 := hh.2.2.2.2.2.2.2.2.1; have f25 := hh.2.2.2.2.2.2.2.2.2.1; have f26 := hh.2.2.2.2.2.2.2.2.2.2.1; have f27 := hh.2.2.2.2.2.2.2.2.2.2.2.1; have f28 := hh.2.2.2.2.2.2.2.2.2.2.2.2; clear hh
    have hh := Bag.cs4 S1.out 3 rfl
    have f29 := hh.1; have f30 := hh.2.1; have f31 := hh.2.2.1; have f32 := hh.2.2.2; clear hh
    have hh := HK.out _ S1.out.old
    have f33 := hh.1; have f34 := hh.2.1; have f35 := hh.2.2.1; have f36 := hh.2.2.2; clear hh
    go_wp2_with fail
    go_at_call 93
    refine (HNX.out _ S1.out.old).mono ?_
    rintro e w1 ⟨rfl, hb⟩
    clear f0 f1 f2 f3 f4 f5 f6 f7 f8 f9 f10 f11 f12 f13 f14 f15 f16 f17 f18 f19 f20 f21 f22 f23 f24 f25 f26 f27 f28 f29 f30 f31 f32 f33 f34 f35 f36
    have S2 := Lib.hid (S1.out.keep hb)
    clear S1
    clear hb
    have hh := Bag.cs3 S2.out 0 rfl
    have f0 := hh.1; have f1 := hh.2.1; have f2 := hh.2.2; clear hh
    have hh := Bag.cs13 S2.out 1 rfl
    have f3 := hh.1; have f4 := hh.2.1; have f5 := hh.2.2.1; have f6 := hh.2.2.2.1; have f7 := hh.2.2.2.2.1; have f8 := hh.2.2.2.2.2.1; have f9 := hh.2.2.2.2.2.2.1; have f10 := hh.2.2.2.2.2.2.2.1; have f11 := hh.2.2.2.2.2.2.2.2.1; have f12 := hh.2.2.2.2.2.2.2.2.2.1; have f13 := hh.2.2.2.2.2.2.2.2.2.2.1; have f14 := hh.2.2.2.2.2.2.2.2.2.2.2.1; have f15 := hh.2.2.2.2.2.2.2.2.2.2.2.2; clear hh
    have hh := Bag.cs13 S2.out 2 rfl
    have f16 := hh.1; have f17 := hh.2.1; have f18 := hh.2.2.1; have f19 := hh.2.2.2.1; have f20 := hh.2.2.2.2.1; have f21 := hh.2.2.2.2.2.1; have f22 := hh.2.2.2.2.2.2.1; have f23 := hh.2.2.2.2.2.2.2.1; have f24 := hh.2.2.2.2.2.2.2.2.1; have f25 := hh.2.2.2.2.2.2.2.2.2.1; have f26 := hh.2.2.2.2.2.2.2.2.2.2.1; have f27 := hh.2.2.2.2.2.2.2.2.2.2.2.1; have f28 := hh.2.2.2.2.2.2.2.2.2.2.2.2; clear hh
    have hh := Bag.cs4 S2.out 3 rfl
    have f29 := hh.1; have f30 := hh.2.1; have f31 := hh.2.2.1; have f32 := hh.2.2.2; clear hh
    have hh := HK.out _ S2.out.old
    have f33 := hh.1; have f34 := hh.2.1; have f35 := hh.2.2.1; have f36 := hh.2.2.2; clear hh
    go_wp2_with fail
    go_at_call 94
    refine (HCI.out _ S2.out.old).mono ?_
    rintro e w2 ⟨a1, c1, rfl, ho, hb⟩
    clear f0 f1 f2 f3 f4 f5 f6 f7 f8 f9 f10 f11 f12 f13 f14 f15 f16 f17 f18 f19 f20 f21 f22 f23 f24 f25 f26 f27 f28 f29 f30 f31 f32 f33 f34 f35 f36
    have S3 := Lib.hid (show Sl.Sep w _ [L4.boxR w.heap.size 26 #[.string name, .slice (some ad) N c, .int .i64 auto], L4.boxR (w.heap.size + 1) 60 #[.bool rl, .bool rh, .int .i64 lk, .int .i64 ln, .string lt, .int .i64 gk, .int .i64 gn, .string gt, .bool bk, .bool st, .int .i64 ck, .int .i64 cn, .string ct], L4.boxR (w.heap.size + 1 + 1) 60 #[.bool false, .bool false, .int .i64 0, .int .i64 0, .string ⟨#[]⟩, .int .i64 0, .int .i64 0, .string ⟨#[]⟩, .bool false, .bool false, .int .i64 0, .int .i64 0, .string ⟨#[]⟩], L4.boxR (w.heap.size + 1 + 1 + 1) 43 #[.int .i64 0, .int .i64 0, .string ⟨#[]⟩, .slice none 0 0], Bag.bag ([(LI.mk ⟨kd, n, t⟩ a1 c1 l).row])] from Bag.push_bag S2.out hb ho)
    clear S2
    clear hb ho
    go_upto_region 5 with fail
    have S4 := Lib.hid (show Sl.Sep w _ [L4.boxR w.heap.size 26 #[.string name, .slice (some ad) N c, .int .i64 auto], L4.boxR (w.heap.size + 1) 60 #[.bool rl, .bool rh, .int .i64 lk, .int .i64 ln, .string lt, .int .i64 gk, .int .i64 gn, .string gt, .bool bk, .bool st, .int .i64 ck, .int .i64 cn, .string ct], L4.boxR (w.heap.size + 1 + 1) 60 #[.bool false, .bool false, .int .i64 0, .int .i64 0, .string ⟨#[]⟩, .int .i64 0, .int .i64 0, .string ⟨#[]⟩, .bool false, .bool false, .int .i64 0, .int .i64 0, .string ⟨#[]⟩], L4.boxR (w.heap.size + 1 + 1 + 1) 43 #[.int .i64 0, .int .i64 0, .string ⟨#[]⟩, .slice none 0 0], Bag.bag ([(LI.mk ⟨kd, n, t⟩ a1 c1 l).row]), L4.boxR w2.heap.size 43 #[.int .i64 kd, .int .i64 n, .string t, .slice a1 l.length c1]] from L4.push_box S3.out 43 #[.int .i64 kd, .int .i64 n, .string t, .slice a1 l.length c1] w2.heap.size rfl)
    clear S3
    obtain ⟨g1, hg⟩ : ∃ g', g' = w2.heap.size := ⟨_, rfl⟩
    rw [← hg] at S4 ⊢
    clear hg
    generalize w2.alloc (.cells #[.int .i64 kd, .int .i64 n, .string t, .slice a1 l.length c1] 43) = w3 at S4 ⊢
    refine wp_region_held_drew (S := (fun w' => (World.cell? w' ⟨w.heap.size + 1, 0, none⟩ = some (.bool rl) ∧ World.cell? w' ⟨w.heap.size + 1, 1, none⟩ = some (.bool rh) ∧ World.cell? w' ⟨w.heap.size + 1, 2, none⟩ = some (.int .i64 lk) ∧ World.cell? w' ⟨w.heap.size + 1, 3, none⟩ = some (.int .i64 ln) ∧ World.cell? w' ⟨w.heap.size + 1, 4, none⟩ = some (.string lt) ∧ World.cell? w' ⟨w.heap.size + 1, 5, none⟩ = some (.int .i64 gk) ∧ World.cell? w' ⟨w.heap.size + 1, 6, none⟩ = some (.int .i64 gn) ∧ World.cell? w' ⟨w.heap.size + 1, 7, none⟩ = some (.string gt) ∧ World.cell? w' ⟨w.heap.size + 1, 8, none⟩ = some (.bool bk) ∧ World.cell? w' ⟨w.heap.size + 1, 9, none⟩ = some (.bool st) ∧ World.cell? w' ⟨w.heap.size + 1, 10, none⟩ = some (.int .i64 ck) ∧ World.cell? w' ⟨w.heap.size + 1, 11, none⟩ = some (.int .i64 cn) ∧ World.cell? w' ⟨w.heap.size + 1, 12, none⟩ = some (.string ct)) ∧ (World.cell? w' ⟨g1, 0, none⟩ = some (.int .i64 kd) ∧ World.cell? w' ⟨g1, 1, none⟩ = some (.int .i64 n) ∧ World.cell? w' ⟨g1, 2, none⟩ = some (.string t) ∧ World.cell? w' ⟨g1, 3, none⟩ = some (.slice a1 l.length c1)))) (by kernel_rfl) ⟨Bag.cs13 (Bag.drew1 S4.out) 1 rfl, Bag.cs4 (Bag.drew1 S4.out) 5 rfl⟩ (fun hS => ?_)
    have S5 := Lib.hid (show Sl.Sep w _ [L4.boxR w.heap.size 26 #[.string name, .slice (some ad) N c, .int .i64 auto], L4.boxR (w.heap.size + 1) 60 #[.bool rl, .bool rh, .int .i64 lk, .int .i64 ln, .string lt, .int .i64 gk, .int .i64 gn, .string gt, .bool bk, .bool st, .int .i64 ck, .int .i64 cn, .string ct], L4.boxR (w.heap.size + 1 + 1) 60 #[.bool false, .bool false, .int .i64 0, .int .i64 0, .string ⟨#[]⟩, .int .i64 0, .int .i64 0, .string ⟨#[]⟩, .bool false, .bool false, .int .i64 0, .int .i64 0, .string ⟨#[]⟩], L4.boxR (w.heap.size + 1 + 1 + 1) 43 #[.int .i64 0, .int .i64 0, .string ⟨#[]⟩, .slice none 0 0], Bag.bag ([(LI.mk ⟨kd, n, t⟩ a1 c1 l).row]), L4.boxR g1 43 #[.int .i64 kd, .int .i64 n, .string t, .slice a1 l.length c1]] from Bag.drew1 S4.out)
    clear S4
    generalize World.drew _ = w4 at hS S5 ⊢
    refine tk 0 rfl ?_
    try simp only [zp0, zp1, zp2, zp3, zp4]
    refine tk 1 rfl ?_
    try simp only [zp0, zp1, zp2, zp3, zp4]
    refine tk 2 rfl ?_
    try simp only [zp0, zp1, zp2, zp3, zp4]
    refine tk 3 rfl ?_
    try simp only [zp0, zp1, zp2, zp3, zp4]
    refine tk 4 rfl ?_
    try simp only [zp0, zp1, zp2, zp3, zp4]
    refine tk 5 rfl ?_
    try simp only [zp0, zp1, zp2, zp3, zp4]
    refine tk 6 rfl ?_
    try simp only [zp0, zp1, zp2, zp3, zp4]
    refine tk 7 rfl ?_
    try simp only [zp0, zp1, zp2, zp3, zp4]
    refine Reg.one_op (i := 8) rfl (by kernel_rfl) (fun K hK => ?_)
    have hh := Bag.cs13 S5.out 2 rfl
    have f0 := hh.1; have f1 := hh.2.1; have f2 := hh.2.2.1; have f3 := hh.2.2.2.1; have f4 := hh.2.2.2.2.1; have f5 := hh.2.2.2.2.2.1; have f6 := hh.2.2.2.2.2.2.1; have f7 := hh.2.2.2.2.2.2.2.1; have f8 := hh.2.2.2.2.2.2.2.2.1; have f9 := hh.2.2.2.2.2.2.2.2.2.1; have f10 := hh.2.2.2.2.2.2.2.2.2.2.1; have f11 := hh.2.2.2.2.2.2.2.2.2.2.2.1; have f12 := hh.2.2.2.2.2.2.2.2.2.2.2.2; clear hh
    have hh := Bag.fs13 S5.out 2 rfl
    have z0 := hh.1; have z1 := hh.2.1; have z2 := hh.2.2.1; have z3 := hh.2.2.2.1; have z4 := hh.2.2.2.2.1; have z5 := hh.2.2.2.2.2.1; have z6 := hh.2.2.2.2.2.2.1; have z7 := hh.2.2.2.2.2.2.2.1; have z8 := hh.2.2.2.2.2.2.2.2.1; have z9 := hh.2.2.2.2.2.2.2.2.2.1; have z10 := hh.2.2.2.2.2.2.2.2.2.2.1; have z11 := hh.2.2.2.2.2.2.2.2.2.2.2.1; have z12 := hh.2.2.2.2.2.2.2.2.2.2.2.2; clear hh
    go_simp
    clear f0 f1 f2 f3 f4 f5 f6 f7 f8 f9 f10 f11 f12 z0 z1 z2 z3 z4 z5 z6 z7 z8 z9 z10 z11 z12
    have S6 := Lib.hid (show Sl.Sep w _ [L4.boxR w.heap.size 26 #[.string name, .slice (some ad) N c, .int .i64 auto], L4.boxR (w.heap.size + 1) 60 #[.bool rl, .bool rh, .int .i64 lk, .int .i64 ln, .string lt, .int .i64 gk, .int .i64 gn, .string gt, .bool bk, .bool st, .int .i64 ck, .int .i64 cn, .string ct], L4.boxR (w.heap.size + 1 + 1) 60 #[.bool rl, .bool rh, .int .i64 lk, .int .i64 ln, .string ⟨#[]⟩, .int .i64 0, .int .i64 0, .string ⟨#[]⟩, .bool false, .bool false, .int .i64 0, .int .i64 0, .string ⟨#[]⟩], L4.boxR (w.heap.size + 1 + 1 + 1) 43 #[.int .i64 0, .int .i64 0, .string ⟨#[]⟩, .slice none 0 0], Bag.bag ([(LI.mk ⟨kd, n, t⟩ a1 c1 l).row]), L4.boxR g1 43 #[.int .i64 kd, .int .i64 n, .string t, .slice a1 l.length c1]] from L5.put_box5 (L5.put_box5 (L5.put_box5 (L5.put_box5 (S5.out) 2 rfl 0 (.bool rl)) 2 rfl 1 (.bool rh)) 2 rfl 2 (.int .i64 lk)) 2 rfl 3 (.int .i64 ln))
    clear S5
    have S7 := Lib.hid (show Sl.Sep w _ [L4.boxR w.heap.size 26 #[.string name, .slice (some ad) N c, .int .i64 auto], L4.boxR (w.heap.size + 1) 60 #[.bool rl, .bool rh, .int .i64 lk, .int .i64 ln, .string lt, .int .i64 gk, .int .i64 gn, .string gt, .bool bk, .bool st, .int .i64 ck, .int .i64 cn, .string ct], L4.boxR (w.heap.size + 1 + 1) 60 #[.bool rl, .bool rh, .int .i64 lk, .int .i64 ln, .string lt, .int .i64 gk, .int .i64 gn, .string gt, .bool false, .bool false, .int .i64 0, .int .i64 0, .string ⟨#[]⟩], L4.boxR (w.heap.size + 1 + 1 + 1) 43 #[.int .i64 0, .int .i64 0, .string ⟨#[]⟩, .slice none 0 0], Bag.bag ([(LI.mk ⟨kd, n, t⟩ a1 c1 l).row]), L4.boxR g1 43 #[.int .i64 kd, .int .i64 n, .string t, .slice a1 l.length c1]] from L5.put_box5 (L5.put_box5 (L5.put_box5 (L5.put_box5 (S6.out) 2 rfl 4 (.string lt)) 2 rfl 5 (.int .i64 gk)) 2 rfl 6 (.int .i64 gn)) 2 rfl 7 (.string gt))
    clear S6
    have S8 := Lib.hid (show Sl.Sep w _ [L4.boxR w.heap.size 26 #[.string name, .slice (some ad) N c, .int .i64 auto], L4.boxR (w.heap.size + 1) 60 #[.bool rl, .bool rh, .int .i64 lk, .int .i64 ln, .string lt, .int .i64 gk, .int .i64 gn, .string gt, .bool bk, .bool st, .int .i64 ck, .int .i64 cn, .string ct], L4.boxR (w.heap.size + 1 + 1) 60 #[.bool rl, .bool rh, .int .i64 lk, .int .i64 ln, .string lt, .int .i64 gk, .int .i64 gn, .string gt, .bool bk, .bool true, .int .i64 kd, .int .i64 n, .string ⟨#[]⟩], L4.boxR (w.heap.size + 1 + 1 + 1) 43 #[.int .i64 0, .int .i64 0, .string ⟨#[]⟩, .slice none 0 0], Bag.bag ([(LI.mk ⟨kd, n, t⟩ a1 c1 l).row]), L4.boxR g1 43 #[.int .i64 kd, .int .i64 n, .string t, .slice a1 l.length c1]] from L5.put_box5 (L5.put_box5 (L5.put_box5 (L5.put_box5 (S7.out) 2 rfl 8 (.bool bk)) 2 rfl 9 (.bool true)) 2 rfl 10 (.int .i64 kd)) 2 rfl 11 (.int .i64 n))
    clear S7
    have S9 := Lib.hid (show Sl.Sep w _ [L4.boxR w.heap.size 26 #[.string name, .slice (some ad) N c, .int .i64 auto], L4.boxR (w.heap.size + 1) 60 #[.bool rl, .bool rh, .int .i64 lk, .int .i64 ln, .string lt, .int .i64 gk, .int .i64 gn, .string gt, .bool bk, .bool st, .int .i64 ck, .int .i64 cn, .string ct], L4.boxR (w.heap.size + 1 + 1) 60 #[.bool rl, .bool rh, .int .i64 lk, .int .i64 ln, .string lt, .int .i64 gk, .int .i64 gn, .string gt, .bool bk, .bool true, .int .i64 kd, .int .i64 n, .string t], L4.boxR (w.heap.size + 1 + 1 + 1) 43 #[.int .i64 0, .int .i64 0, .string ⟨#[]⟩, .slice none 0 0], Bag.bag ([(LI.mk ⟨kd, n, t⟩ a1 c1 l).row]), L4.boxR g1 43 #[.int .i64 kd, .int .i64 n, .string t, .slice a1 l.length c1]] from L5.put_box5 (S8.out) 2 rfl 12 (.string t))
    clear S8
    refine hK.out _ _ ⟨Bag.cs13 S9.out 1 rfl, Bag.cs4 S9.out 5 rfl⟩ (fun hS => ?_)
    clear hK K
    try simp only [zp0, zp1, zp2, zp3, zp4]
    refine Reg.one_op (i := 9) rfl (by kernel_rfl) (fun K hK => ?_)
    have hh := Bag.cs4 S9.out 3 rfl
    have f0 := hh.1; have f1 := hh.2.1; have f2 := hh.2.2.1; have f3 := hh.2.2.2; clear hh
    have hh := Bag.fs4 S9.out 3 rfl
    have z0 := hh.1; have z1 := hh.2.1; have z2 := hh.2.2.1; have z3 := hh.2.2.2; clear hh
    go_simp
    clear f0 f1 f2 f3 z0 z1 z2 z3
    have S10 := Lib.hid (show Sl.Sep w _ [L4.boxR w.heap.size 26 #[.string name, .slice (some ad) N c, .int .i64 auto], L4.boxR (w.heap.size + 1) 60 #[.bool rl, .bool rh, .int .i64 lk, .int .i64 ln, .string lt, .int .i64 gk, .int .i64 gn, .string gt, .bool bk, .bool st, .int .i64 ck, .int .i64 cn, .string ct], L4.boxR (w.heap.size + 1 + 1) 60 #[.bool rl, .bool rh, .int .i64 lk, .int .i64 ln, .string lt, .int .i64 gk, .int .i64 gn, .string gt, .bool bk, .bool true, .int .i64 kd, .int .i64 n, .string t], L4.boxR (w.heap.size + 1 + 1 + 1) 43 #[.int .i64 kd, .int .i64 n, .string t, .slice a1 l.length c1], Bag.bag ([(LI.mk ⟨kd, n, t⟩ a1 c1 l).row]), L4.boxR g1 43 #[.int .i64 kd, .int .i64 n, .string t, .slice a1 l.length c1]] from L5.put_box5 (L5.put_box5 (L5.put_box5 (L5.put_box5 (S9.out) 3 rfl 0 (.int .i64 kd)) 3 rfl 1 (.int .i64 n)) 3 rfl 2 (.string t)) 3 rfl 3 (.slice a1 l.length c1))
    clear S9
    refine hK.out _ _ ⟨Bag.cs13 S10.out 1 rfl, Bag.cs4 S10.out 5 rfl⟩ (fun hS => ?_)
    clear hK K
    try simp only [zp0, zp1, zp2, zp3, zp4]
    refine tk 10 rfl ?_
    try simp only [zp0, zp1, zp2, zp3, zp4]
    refine wpAnyH_done (by kernel_rfl) ?_ _
    have hh := Bag.cs3 S10.out 0 rfl
    have f0 := hh.1; have f1 := hh.2.1; have f2 := hh.2.2; clear hh
    have hh := Bag.cs13 S10.out 1 rfl
    have f3 := hh.1; have f4 := hh.2.1; have f5 := hh.2.2.1; have f6 := hh.2.2.2.1; have f7 := hh.2.2.2.2.1; have f8 := hh.2.2.2.2.2.1; have f9 := hh.2.2.2.2.2.2.1; have f10 := hh.2.2.2.2.2.2.2.1; have f11 := hh.2.2.2.2.2.2.2.2.1; have f12 := hh.2.2.2.2.2.2.2.2.2.1; have f13 := hh.2.2.2.2.2.2.2.2.2.2.1; have f14 := hh.2.2.2.2.2.2.2.2.2.2.2.1; have f15 := hh.2.2.2.2.2.2.2.2.2.2.2.2; clear hh
    have hh := Bag.cs13 S10.out 2 rfl
    have f16 := hh.1; have f17 := hh.2.1; have f18 := hh.2.2.1; have f19 := hh.2.2.2.1; have f20 := hh.2.2.2.2.1; have f21 := hh.2.2.2.2.2.1; have f22 := hh.2.2.2.2.2.2.1; have f23 := hh.2.2.2.2.2.2.2.1; have f24 := hh.2.2.2.2.2.2.2.2.1; have f25 := hh.2.2.2.2.2.2.2.2.2.1; have f26 := hh.2.2.2.2.2.2.2.2.2.2.1; have f27 := hh.2.2.2.2.2.2.2.2.2.2.2.1; have f28 := hh.2.2.2.2.2.2.2.2.2.2.2.2; clear hh
    have hh := Bag.cs4 S10.out 3 rfl
    have f29 := hh.1; have f30 := hh.2.1; have f31 := hh.2.2.1; have f32 := hh.2.2.2; clear hh
    have hh := Bag.cs4 S10.out 5 rfl
    have f33 := hh.1; have f34 := hh.2.1; have f35 := hh.2.2.1; have f36 := hh.2.2.2; clear hh
    clear f0 f1 f2 f3 f4 f5 f6 f7 f8 f9 f10 f11 f12 f13 f14 f15 f16 f17 f18 f19 f20 f21 f22 f23 f24 f25 f26 f27 f28 f29 f30 f31 f32 f33 f34 f35 f36
    have hh := Bag.cs13 S10.out 2 rfl
    have f0 := hh.1; have f1 := hh.2.1; have f2 := hh.2.2.1; have f3 := hh.2.2.2.1; have f4 := hh.2.2.2.2.1; have f5 := hh.2.2.2.2.2.1; have f6 := hh.2.2.2.2.2.2.1; have f7 := hh.2.2.2.2.2.2.2.1; have f8 := hh.2.2.2.2.2.2.2.2.1; have f9 := hh.2.2.2.2.2.2.2.2.2.1; have f10 := hh.2.2.2.2.2.2.2.2.2.2.1; have f11 := hh.2.2.2.2.2.2.2.2.2.2.2.1; have f12 := hh.2.2.2.2.2.2.2.2.2.2.2.2; clear hh
    have hh := Bag.cs4 S10.out 3 rfl
    have f13 := hh.1; have f14 := hh.2.1; have f15 := hh.2.2.1; have f16 := hh.2.2.2; clear hh
    go_wp2_with fail
    refine bodyPost_ret (v := .tuple #[.agg #[.bool rl, .bool rh, .int .i64 lk, .int .i64 ln, .string lt, .int .i64 gk, .int .i64 gn, .string gt, .bool bk, .bool true, .int .i64 kd, .int .i64 n, .string t], .agg #[.int .i64 kd, .int .i64 n, .string t, .slice a1 l.length c1], .bool true]) (by simp [results, Try.results36, go_sem, *]) rfl ?_
    clear f0 f1 f2 f3 f4 f5 f6 f7 f8 f9 f10 f11 f12 f13 f14 f15 f16
    refine ⟨a1, c1, ?_, ?_, S10.out.old⟩
    · rw [HCU.out.1, HCU.out.2.1, HCU.out.2.2, HXX.out]; rfl
    · rw [HCU.out.2.1]; exact Bag.bag_from S10.out 4 rfl
end Go.Proofs.Ytmnedjhfibmcnaa.L7

