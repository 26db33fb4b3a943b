/-
  The contracts of the library's comparisons and of CompareBytes of the program: cmp.Compare, strings.Compare, bytes.Compare, CompareBytes. No condition.
-/
import Derived.Test.YtkfejjoehgipmaaPb
import Derived.Lib.Bytealg
namespace Go.Proofs.Ytkfejjoehgipmaa.L4
set_option maxRecDepth 100000
open Go.Op (bytesLess)
open Go.ChangeShapes Go.WideShapes Go.ChangeAt Go.RowKit Mem Sl Ex L2
set_option linter.unusedVariables false

theorem cmpB_eq : ∀ (x y : List UInt8), Lib.compareBytes x y = cmpL x y
  | [], [] => by simp [Lib.compareBytes, cmpL, sgn, bytesLess]
  | [], _ :: _ => by simp [Lib.compareBytes, cmpL, sgn, bytesLess]
  | _ :: _, [] => by simp [Lib.compareBytes, cmpL, sgn, bytesLess]
  | a :: x, b :: y => by
    rw [cmpL_cons, ← cmpB_eq x y, show Lib.compareBytes (a :: x) (b :: y) = if a < b then -1 else if b < a then 1 else Lib.compareBytes x y by simp only [Lib.compareBytes]]
    by_cases e : a = b
    · subst e
      rw [if_pos rfl, if_neg (UInt8.lt_irrefl _), if_neg (UInt8.lt_irrefl _)]
    · rw [if_neg e]
      by_cases h : a < b
      · rw [if_pos h, cmpL_less (by simp [bytesLess, h])]
      · have h2 : b < a := UInt8.lt_of_le_of_ne (UInt8.not_lt.1 h) (Ne.symm e)
        rw [if_neg h, if_pos h2, cmpL_more (by simp [bytesLess, h2])]

theorem run_loadBytesL {P : Program} (w : World) : ∀ (l : List Int) (a : Addr) (acc : ByteArray), (∀ j (hj : j < l.length), w.cell? (a.add j) = some (.int .u8 l[j])) →
    (Extern.Bytes.loadBytes a l.length acc).run P w = .ok ⟨acc.data ++ (toU l).toArray⟩ w
  | [], a, acc, _ => by simp [Extern.Bytes.loadBytes, toU]
  | x :: l, a, acc, h => by
    have h0 : w.cell? a = some (.int .u8 x) := by
      have := h 0 (Nat.succ_pos _)
      simpa [Addr.add] using this
    have ih := run_loadBytesL (P := P) w l (a.add 1) (acc.push x.toNat.toUInt8) (fun j hj => by
      have := h (j + 1) (Nat.succ_lt_succ hj)
      have e : (a.add 1).add j = a.add (j + 1) := by
        unfold Addr.add
        by_cases hj : j = 0
        · subst hj; simp
        · simp [hj]; omega
      rw [e]; simpa using this)
    simp only [List.length_cons, Extern.Bytes.loadBytes, Sem.run_bind, run_load, h0, Result.andThen]
    rw [ih]
    congr 1
    apply ByteArray.ext
    simp [ByteArray.push, toU, UInt8.ofNat]
theorem run_bytesOf {P : Program} (w : World) (B : Nat) (a : Option Addr) (c : Nat) (l : List Int) (hr : Reads w B a (ints .u8 l)) :
    (Extern.Bytes.bytesOf (.slice a l.length c)).run P w = .ok ⟨(toU l).toArray⟩ w := by
  rcases a with _ | ad
  · have hl : l = [] := by
      rcases l with _ | ⟨x, l⟩
      · rfl
      · obtain ⟨ad, h, _⟩ := hr 0 (by simp [ints])
        cases h
    subst hl
    rfl
  · have := run_loadBytesL (P := P) w l ad .empty (fun j hj => by
      obtain ⟨ad', h, _, hc⟩ := hr j (by simpa using hj)
      injection h with h
      subst h
      rw [hc, ints_get .u8 l j hj])
    unfold Extern.Bytes.bytesOf
    rw [this]
    simp [ByteArray.empty, ByteArray.emptyWithCapacity]
    rfl
theorem run_compareBytes {P : Program} (w : World) (B : Nat) (a a2 : Option Addr) (c c2 : Nat) (l m : List Int) (hr : Reads w B a (ints .u8 l)) (hr2 : Reads w B a2 (ints .u8 m)) :
    (Extern.BytealgCompare.compare #[.slice a l.length c, .slice a2 m.length c2]).run P w = .ok (.int .i64 (cmpL (toU l) (toU m))) w := by
  change Sem.run P (do pure (goInt (Extern.BytealgCompare.cmp (← Extern.Bytes.bytesOf (.slice a l.length c)) (← Extern.Bytes.bytesOf (.slice a2 m.length c2))))) w = _
  simp only [Sem.run_bind, run_bytesOf w B a c l hr, run_bytesOf w B a2 c2 m hr2, Sem.run_pure, Result.andThen]
  rw [Lib.cmp_eq, cmpB_eq]
  rfl

theorem bytesCompare_any (a a2 : Option Addr) (c c2 : Nat) (l m : List Int) (w : World) (B : Nat) (hr : Reads w B a (ints .u8 l)) (hr2 : Reads w B a2 (ints .u8 m)) :
    Calls Try.prog 135 #[.slice a l.length c, .slice a2 m.length c2] w fun e w' => e = .returned (.int .i64 (cmpL (toU l) (toU m))) ∧ w = w' := by
  have K := run_compareBytes (P := Try.prog) w B a a2 c c2 l m hr hr2
  obtain ⟨n1, hn1⟩ : ∃ n, n = l.length := ⟨_, rfl⟩
  obtain ⟨n2, hn2⟩ : ∃ n, n = m.length := ⟨_, rfl⟩
  obtain ⟨v, hv⟩ : ∃ v, v = cmpL (toU l) (toU m) := ⟨_, rfl⟩
  rw [← hn1, ← hn2, ← hv] at K
  rw [← hn1, ← hn2, ← hv]
  clear hn1 hn2 hv hr hr2
  go_enter Try.func135, Try.ntmps135
  go_wp2
  rw [run_callFunc_extern Try.func141 (by kernel_rfl) (by kernel_rfl) (by kernel_rfl) (e := Extern.BytealgCompare.compare) (by kernel_rfl), K]
  simp only [Result.andThen]
  rw [Oper.upon_value]
  go_wp2
  go_ret
  exact ⟨rfl, rfl⟩
theorem implCompareBytes_any (a a2 : Option Addr) (c c2 : Nat) (l m : List Int) (w : World) (B : Nat) (hr : Reads w B a (ints .u8 l)) (hr2 : Reads w B a2 (ints .u8 m)) :
    Calls Try.prog 119 #[.slice a l.length c, .slice a2 m.length c2] w fun e w' => e = .returned (.int .i64 (cmpL (toU l) (toU m))) ∧ Drew w w' := by
  have H := Lib.hid (fun w hr hr2 => bytesCompare_any a a2 c c2 l m w B hr hr2)
  go_enter Try.func119, Try.ntmps119
  go_wp2_with (go_at_call 135; with_reducible refine (H.out _ hr hr2).mono ?_; rintro e w1 ⟨rfl, rfl⟩)
  go_ret
  exact ⟨rfl, Drew.refl w⟩

theorem compareString_any (a b : ByteArray) (w : World) :
    Calls Try.prog 136 #[.string a, .string b] w fun e w' => e = .returned (.int .i64 (cmpL a.data.toList b.data.toList)) ∧ w = w' := by
  have K := Lib.run_compareString (P := Try.prog) a b w
  rw [cmpB_eq] at K
  obtain ⟨v, hv⟩ : ∃ v, v = cmpL a.data.toList b.data.toList := ⟨_, rfl⟩
  rw [← hv] at K ⊢
  clear hv
  go_enter Try.func136, Try.ntmps136
  go_wp2
  rw [run_callFunc_extern Try.func142 (by kernel_rfl) (by kernel_rfl) (by kernel_rfl) (e := Extern.BytealgCompare.compare) (by kernel_rfl), K]
  simp only [Result.andThen]
  rw [Oper.upon_value]
  go_wp2
  go_ret
  exact ⟨rfl, rfl⟩
theorem stringsCompare_any (a b : ByteArray) (w : World) :
    Calls Try.prog 120 #[.string a, .string b] w fun e w' => e = .returned (.int .i64 (cmpL a.data.toList b.data.toList)) ∧ w = w' := by
  have H := Lib.hid (fun w => compareString_any a b w)
  go_enter Try.func120, Try.ntmps120
  go_wp2_with (go_at_call 136; with_reducible refine (H.out _).mono ?_; rintro e w1 ⟨rfl, rfl⟩)
  go_ret
  exact ⟨rfl, rfl⟩
theorem isNaN_any (x : Int) (w : World) :
    Calls Try.prog 134 #[.int .i64 x] w fun e w' => e = .returned (.bool false) ∧ w = w' := by
  go_enter Try.func134, Try.ntmps134
  go_wp2
  go_ret
  exact ⟨by simp, rfl⟩
theorem cmpInt_any (x y : Int) (hn : ¬ x = y) (w : World) :
    Calls Try.prog 117 #[.int .i64 x, .int .i64 y] w fun e w' => e = .returned (.int .i64 (sgn (decide (x < y)) true)) ∧ w = w' := by
  have H := Lib.hid isNaN_any
  rcases (show x < y ∨ (¬ x < y ∧ x > y) by omega) with h | ⟨h, h2⟩
  all_goals
    go_enter Try.func117, Try.ntmps117
    go_wp2_with (go_at_call 134; refine (H.out _ _).mono ?_; rintro e w1 ⟨rfl, rfl⟩)
    go_ret
    exact ⟨by simp [h, sgn], rfl⟩
end Go.Proofs.Ytkfejjoehgipmaa.L4
