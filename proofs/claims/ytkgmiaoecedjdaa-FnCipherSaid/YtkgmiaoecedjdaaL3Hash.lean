/-
  The contracts of chapter 3's hash: fold, Hash, KeyedHash, of the specification and of the program. Conditions: the slice reads as a list of at most 2^40 numbers; the accumulator is a remainder modulo Modulus.
-/
import Derived.Test.YtkgmiaoecedjdaaL2App
import Derived.Test.YtkgmiaoecedjdaaL1Div
import Derived.Test.YtkgmiaoecedjdaaL3Num
namespace Go.Proofs.Ytkgmiaoecedjdaa.L3
open Go.ChangeShapes Go.WideShapes Go.ChangeAt Go.RowKit Mem Sl Ex L2
set_option linter.unusedVariables false

theorem info64h : (Try.prog.info? 3).map (fun i => (i.zero, i.size, i.bytes)) = some (some (.int .i64 0), 1, 8) := by kernel_rfl
theorem modM (v : Int) : L1.modV v 2147483647 = v % 2147483647 := by
  unfold L1.modV
  rw [if_pos (L1.inB_true.mpr ⟨by omega, by omega⟩)]
theorem own_lit (w : World) (e : TypeId) (k : IntKind) (l : List Int) {B : Nat} (hB : B ≤ w.heap.size) (hl : l.length ≤ maxLen) : Own (w.alloc (.cells (ints k l).toArray e)) B e k (some ⟨w.heap.size, 0, none⟩) l.length l :=
  ⟨by simp, .inr ⟨w.heap.size, l.length, (ints k l).toArray, rfl, hB, heap_alloc_new w _, Nat.le_refl _, hl, by simp, by rw [Nat.mul_one]; exact List.take_of_length_le (by simp)⟩⟩
theorem hfold_take (d : Int) (l : List Int) (k : Nat) (h : k < l.length) : hfold d (l.take (k + 1)) = hstep (hfold d (l.take k)) l[k] := by
  rw [List.take_succ_eq_append_getElem h]; unfold hfold; rw [List.foldl_append]; rfl
theorem hfold_append (d : Int) (l m : List Int) : hfold d (l ++ m) = hfold (hfold d l) m := by simp [hfold]
theorem kh_folds (k : Int) (l : List Int) : hfold (hfold (hfold 11 [k]) l) [k] = kh k l := by
  unfold kh hs
  rw [show k :: (l ++ [k]) = ([k] ++ l) ++ [k] by simp, hfold_append, hfold_append]

theorem fold_any (a : Option Addr) (c : Nat) (l : List Int) (d : Int) (w : World) (B : Nat) (hr : Reads w B a (ints .i64 l)) (hl : l.length ≤ 1099511627776) (hd : 0 ≤ d ∧ d < 2147483647) :
    Calls Try.prog 50 #[.int .i64 d, .slice a l.length c] w fun e w' => e = .returned (.int .i64 (hfold d l)) ∧ w = w' := by
  obtain ⟨n, hn⟩ : ∃ n, n = l.length := ⟨_, rfl⟩
  have hl' : n ≤ 1099511627776 := by omega
  rw [← hn]
  have HN := Lib.hid hn
  have H := Lib.hid hr
  obtain ⟨hd0, hd1⟩ := hd
  clear hn hr hl
  go_enter Try.func50, Try.ntmps50
  go_wp2
  go_loop [0, 9] (fun v i => ∃ (k : Nat) (x : Int), k ≤ n ∧ i = .int .i64 k ∧ v = .int .i64 x ∧ 0 ≤ x ∧ x < 2147483647 ∧ Hid (x = hfold d (l.take k))) (fun _ i => n - (intOf i).toNat)
  case atStart => exact ⟨0, d, Nat.zero_le _, rfl, rfl, hd0, hd1, rfl⟩
  case round =>
    obtain ⟨k, x, hk, rfl, rfl, hx0, hx1, hrel⟩ := hrel
    by_cases hlt : k < n
    · obtain ⟨ad, rfl, -, hcell⟩ := H.out.int k (by have := HN.out; omega)
      obtain ⟨v, hv⟩ : ∃ x, x = l[k]'(by have := HN.out; omega) := ⟨_, rfl⟩
      rw [← hv] at hcell
      have hs : hfold d (l.take (k + 1)) = (x * 1000003 + v % 2147483647 + 13) % 2147483647 := by rw [hfold_take d l k (by have := HN.out; omega), ← hrel.out, ← hv]; rfl
      obtain ⟨r, hr⟩ : ∃ r, r = v % 2147483647 := ⟨_, rfl⟩
      have hr0 : 0 ≤ r ∧ r < 2147483647 := by omega
      obtain ⟨hr0, hr1⟩ := hr0
      rw [← hr] at hs
      have HS := Lib.hid hs
      have HM := Lib.hid (fun w => L1.implMod_any v 2147483647 w)
      rw [modM, ← hr] at HM
      clear hs hr hv hrel
      go_wp2_with (go_at_call 61; refine (HM.out _).mono ?_; rintro e w1 ⟨rfl, rfl⟩)
      go_round
      case rel => exact ⟨k + 1, (x * 1000003 + r + 13) % 2147483647, by omega, by go_num, rfl, by omega, by omega, HS.out.symm⟩
      case measure => simp [intOf]; omega
    · go_wp2
      go_ret
      obtain rfl : k = n := by omega
      have e1 : l.take k = l := by rw [HN.out, List.take_length]
      have h2 := hrel.out
      rw [e1] at h2
      exact ⟨by rw [h2]; rfl, rfl⟩
theorem specHash_any (a : Option Addr) (c : Nat) (l : List Int) (w : World) (B : Nat) (hr : Reads w B a (ints .i64 l)) (hl : l.length ≤ 1099511627776) :
    Calls Try.prog 26 #[.slice a l.length c] w fun e w' => e = .returned (.int .i64 (hs l)) ∧ w = w' := by
  obtain ⟨n, hn⟩ : ∃ n, n = l.length := ⟨_, rfl⟩
  have hl' : n ≤ 1099511627776 := by omega
  rw [← hn]
  have HN := Lib.hid hn
  have H := Lib.hid hr
  clear hn hr hl
  go_enter Try.func26, Try.ntmps26
  go_wp2
  go_loop [3, 4] (fun v i => ∃ (k : Nat) (x : Int), k ≤ n ∧ i = .int .i64 k ∧ v = .int .i64 x ∧ 0 ≤ x ∧ x < 2147483647 ∧ Hid (x = hfold 11 (l.take k))) (fun _ i => n - (intOf i).toNat)
  case atStart => exact ⟨0, 11, Nat.zero_le _, rfl, rfl, by omega, by omega, rfl⟩
  case round =>
    obtain ⟨k, x, hk, rfl, rfl, hx0, hx1, hrel⟩ := hrel
    by_cases hlt : k < n
    · obtain ⟨ad, rfl, -, hcell⟩ := H.out.int k (by have := HN.out; omega)
      obtain ⟨v, hv⟩ : ∃ x, x = l[k]'(by have := HN.out; omega) := ⟨_, rfl⟩
      rw [← hv] at hcell
      have hs : hfold 11 (l.take (k + 1)) = (x * 1000003 + v % 2147483647 + 13) % 2147483647 := by rw [hfold_take 11 l k (by have := HN.out; omega), ← hrel.out, ← hv]; rfl
      obtain ⟨r, hr⟩ : ∃ r, r = v % 2147483647 := ⟨_, rfl⟩
      have hr0 : 0 ≤ r ∧ r < 2147483647 := by omega
      obtain ⟨hr0, hr1⟩ := hr0
      rw [← hr] at hs
      have HS := Lib.hid hs
      have HM := Lib.hid (fun w => L1.specMod_any v 2147483647 w)
      rw [modM, ← hr] at HM
      clear hs hr hv hrel
      go_wp2_with (go_at_call 22; refine (HM.out _).mono ?_; rintro e w1 ⟨rfl, rfl⟩)
      go_round
      case rel => exact ⟨k + 1, (x * 1000003 + r + 13) % 2147483647, by omega, by go_num, rfl, by omega, by omega, HS.out.symm⟩
      case measure => simp [intOf]; omega
    · go_wp2
      go_ret
      obtain rfl : k = n := by omega
      have e1 : l.take k = l := by rw [HN.out, List.take_length]
      have h2 := hrel.out
      rw [e1] at h2
      exact ⟨by rw [h2]; rfl, rfl⟩
theorem implHash_any (a : Option Addr) (c : Nat) (l : List Int) (w : World) (B : Nat) (hr : Reads w B a (ints .i64 l)) (hl : l.length ≤ 1099511627776) :
    Calls Try.prog 20 #[.slice a l.length c] w fun e w' => e = .returned (.int .i64 (hs l)) ∧ w = w' := by
  have H := Lib.hid (fold_any a c l 11 w B hr hl (by omega))
  clear hr
  go_enter Try.func20, Try.ntmps20
  go_wp2_with (go_at_call 50; refine H.out.mono ?_; rintro e w1 ⟨rfl, rfl⟩)
  go_ret
  exact ⟨rfl, rfl⟩
theorem reads_at (w : World) (k : IntKind) (x : Int) (t : TypeId) (g : Nat) (hg : g = w.heap.size) : Reads (w.alloc (.cells #[.int k x] t)) (g + 1) (some ⟨g, 0, none⟩) (ints k [x]) := by
  subst hg
  exact reads_one w k x t
theorem fold_eq (a : Option Addr) (c : Nat) (l : List Int) (d r : Int) (w : World) (B n : Nat) (hn : n = l.length) (hr : Reads w B a (ints .i64 l)) (hl : l.length ≤ 1099511627776) (hd : 0 ≤ d ∧ d < 2147483647) (he : hfold d l = r) :
    Calls Try.prog 50 #[.int .i64 d, .slice a n c] w fun e w' => e = .returned (.int .i64 r) ∧ w = w' := by
  subst hn
  subst he
  exact fold_any a c l d w B hr hl hd
theorem implKeyedHash_any (k : Int) (a : Option Addr) (c : Nat) (l : List Int) (w : World) (B : Nat) (hr : Reads w B a (ints .i64 l)) (hB : B ≤ w.heap.size) (hl : l.length ≤ 1099511627776) :
    Calls Try.prog 19 #[.int .i64 k, .slice a l.length c] w fun e w' => e = .returned (.int .i64 (kh k l)) ∧ Below w.heap.size w w' := by
  obtain ⟨x1, hx1⟩ : ∃ x, hfold 11 [k] = x := ⟨_, rfl⟩
  obtain ⟨x2, hx2⟩ : ∃ x, hfold x1 l = x := ⟨_, rfl⟩
  obtain ⟨x3, hx3⟩ : ∃ x, hfold x2 [k] = x := ⟨_, rfl⟩
  have g1 : 0 ≤ x1 ∧ x1 < 2147483647 := by rw [← hx1]; exact hfold_range ⟨by decide, by decide⟩ _
  have g2 : 0 ≤ x2 ∧ x2 < 2147483647 := by rw [← hx2]; exact hfold_range g1 _
  have HE := Lib.hid (show kh k l = x3 by rw [← hx3, ← hx2, ← hx1]; exact (kh_folds k l).symm)
  obtain ⟨n, hn⟩ : ∃ n, n = l.length := ⟨_, rfl⟩
  have H1 := Lib.hid (fold_eq _ 1 [k] 11 x1 _ _ 1 rfl (reads_one w .i64 k 3) (by simp) ⟨by decide, by decide⟩ hx1)
  have hr1 := hr.below (below_alloc (Below.refl B w) (.cells #[.int .i64 k] 3) hB)
  have H2 := Lib.hid (fold_eq a c l x1 x2 _ B n hn hr1 hl g1 hx2)
  have H3 := Lib.hid (fold_eq _ 1 [k] x2 x3 _ _ 1 rfl (reads_at (w.alloc (.cells #[.int .i64 k] 3)) .i64 k 3 (w.heap.size + 1) (by simp)) (by simp) g2 hx3)
  have HW := Lib.hid (below_alloc (below_alloc (Below.refl w.heap.size w) (.cells #[.int .i64 k] 3) (Nat.le_refl _)) (.cells #[.int .i64 k] 3) (Nat.le_refl _))
  rw [← hn, HE.out]
  clear hr hr1 g1 g2 hx1 hx2 hx3 hl hn HE
  go_enter Try.func19, Try.ntmps19
  go_wp2_with fail
  go_at_call 50
  refine H1.out.mono ?_
  rintro e w1 ⟨rfl, rfl⟩
  go_wp2_with fail
  go_at_call 50
  refine H2.out.mono ?_
  rintro e w1 ⟨rfl, rfl⟩
  go_wp2_with fail
  go_at_call 50
  refine H3.out.mono ?_
  rintro e w1 ⟨rfl, rfl⟩
  go_wp2_with fail
  go_ret
  exact ⟨rfl, HW.out⟩
theorem specKeyedHash_any (k : Int) (a : Option Addr) (c : Nat) (l : List Int) (w : World) (B : Nat) (hr : Reads w B a (ints .i64 l)) (hB : B ≤ w.heap.size) (hl : l.length ≤ 1000000000) :
    Calls Try.prog 29 #[.int .i64 k, .slice a l.length c] w fun e w' => e = .returned (.int .i64 (kh k l)) ∧ Below w.heap.size w w' := by
  obtain ⟨i0, hi, hz0, hz1, hz2⟩ := infoOf _ _ _ _ info64h
  have HR := Lib.hid (hr.below (below_alloc (Below.refl B w) (.cells #[.int .i64 k] 3) hB))
  have HO := Lib.hid (show Own (w.alloc (.cells #[.int .i64 k] 3)) w.heap.size 3 .i64 (some ⟨w.heap.size, 0, none⟩) 1 [k] from own_lit w 3 .i64 [k] (Nat.le_refl _) (by simp [maxLen]))
  have HW := Lib.hid (below_alloc (Below.refl w.heap.size w) (.cells #[.int .i64 k] 3) (Nat.le_refl _))
  obtain ⟨n, hn⟩ : ∃ n, n = l.length := ⟨_, rfl⟩
  obtain ⟨r, hr2⟩ : ∃ r, r = kh k l := ⟨_, rfl⟩
  have hh : ∀ (w1 : World) (a1 : Option Addr) (c1 : Nat), Reads w1 w1.heap.size a1 (ints .i64 ([k] ++ l ++ [k])) → Calls Try.prog 26 #[.slice a1 (n + 1 + 1) c1] w1 fun e w' => e = .returned (.int .i64 r) ∧ w1 = w' := fun w1 a1 c1 h1 => by
    have e1 : n + 1 + 1 = ([k] ++ l ++ [k]).length := by simp [hn]
    have e2 : r = hs ([k] ++ l ++ [k]) := by rw [hr2]; unfold kh; rw [show [k] ++ l ++ [k] = k :: (l ++ [k]) by simp]
    rw [e1, e2]
    exact specHash_any a1 c1 _ w1 _ h1 (by simp; omega)
  have HH := Lib.hid hh
  rw [← hn, ← hr2]
  have HN := Lib.hid hn
  have hl' : n ≤ 1000000000 := by omega
  clear hr hn hl hh hr2
  go_enter Try.func29, Try.ntmps29
  go_wp2_with (first
    | (at_builtin; refine wpList_append_src _ rfl _ _ 28 rfl w.heap.size 3 i0 (.int .i64 0) 8 Try.underlying28 hi hz0 hz1 hz2 rfl .i64 _ _ _ [k] rfl rfl HO.out B _ n _ l rfl HN.out HR.out (by have := HN.out; simp [maxLen]; omega) (by have := HN.out; simp; omega) (by simp) ?_; intro a2 c2 w2 ho2 hg2; rw [← HN.out])
    | (at_builtin; refine wpList_append_src _ rfl _ _ 28 rfl w.heap.size 3 i0 (.int .i64 0) 8 Try.underlying28 hi hz0 hz1 hz2 rfl .i64 a2 _ c2 ([k] ++ l) rfl (by have := HN.out; simp; omega) (own_alloc ho2 _) _ _ 1 1 [_] rfl rfl (reads_one _ _ _ _) (by have := HN.out; simp [maxLen]; omega) (by have := HN.out; simp; omega) (Nat.le_trans (Nat.le_trans HW.out.size hg2.size) (by simp)) ?_; intro a3 c3 w3 ho3 hg3; rw [show ([k] ++ l).length = n + 1 by have := HN.out; simp; omega]))
  go_at_call 26
  refine (HH.out w3 a3 c3 ho3.reads).mono ?_
  rintro e w4 ⟨rfl, rfl⟩
  go_wp2_with fail
  go_ret
  have b1 := HW.out.trans (below_own HO.out hg2 (by simp))
  have b2 := below_alloc b1 (.cells #[.int .i64 k] 3) (Nat.le_refl _)
  exact ⟨rfl, b2.trans (below_own (own_alloc ho2 _) hg3 b2.size)⟩
end Go.Proofs.Ytkgmiaoecedjdaa.L3
