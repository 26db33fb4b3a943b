/-
  Plain facts on decimal numerals, of no program: the digits that FormatInt's loop lays, that a numeral is parsed back to its number, and when a string is the numeral of a number in the range 0 to MaxValue. No condition.
-/
import Derived.Lib.ItoaNum
import Derived.Lib.ItoaLen
import Derived.Lib.AtoiTie
import Derived.Lib.AtoiAllCases
namespace Go.Proofs.Ytpapncecfleejaa.L1
set_option maxRecDepth 100000

/-- The decimal digits of u, none for 0. -/
def digs (u : Nat) : List UInt8 :=
  if _h : u = 0 then [] else digs (u / 10) ++ [UInt8.ofNat (48 + u % 10)]
termination_by u
decreasing_by omega

theorem digs_zero : digs 0 = [] := by rw [digs, dif_pos rfl]
theorem digs_step {u : Nat} (h : u ≠ 0) : digs u = digs (u / 10) ++ [UInt8.ofNat (48 + u % 10)] := by rw [digs, dif_neg h]
theorem digs_eq (u : Nat) (h : u ≠ 0) : digs u = Lib.decDigits u := by
  induction u using Nat.strongRecOn with
  | _ u ih =>
    rw [digs_step h]
    by_cases h10 : u < 10
    · rw [Lib.decDigits, dif_pos h10, show u / 10 = 0 by omega, digs_zero, Nat.mod_eq_of_lt h10]; rfl
    · rw [Lib.decDigits, dif_neg h10, ih (u / 10) (by omega) (by omega)]
theorem digs_length (u : Nat) : (digs u).length ≤ Lib.nDigits u := by
  by_cases h : u = 0
  · subst h; rw [digs_zero]; exact Nat.zero_le _
  · rw [digs_eq u h, Lib.decDigits_length]; exact Nat.le_refl _

/-- FormatInt's value. -/
theorem itoa_pos {n : Int} (h : 0 < n) : Lib.itoa n = digs n.natAbs := by
  unfold Lib.itoa
  rw [if_neg (by omega), digs_eq _ (by omega), show n.toNat = n.natAbs by omega]
theorem itoa_neg {n : Int} (h : n < 0) : Lib.itoa n = 45 :: digs n.natAbs := by
  unfold Lib.itoa
  rw [if_pos h, digs_eq _ (by omega)]
theorem itoa_zero : Lib.itoa 0 = [48] := by
  unfold Lib.itoa
  rw [if_neg (by omega)]
  exact Lib.decDigits_one (by omega)

theorem decFrom_snoc (l : List UInt8) (b : UInt8) : ∀ acc, Lib.decFrom acc (l ++ [b]) = (Lib.decFrom acc l).bind fun n => (Lib.digitVal b).map fun d => n * 10 + d := by
  induction l with
  | nil =>
    intro acc
    simp only [List.nil_append, Lib.decFrom]
    cases Lib.digitVal b <;> rfl
  | cons a t ih =>
    intro acc
    simp only [List.cons_append, Lib.decFrom]
    cases Lib.digitVal a with
    | none => rfl
    | some d => exact ih _

theorem digitVal_dig (d : Nat) (h : d < 10) : Lib.digitVal (UInt8.ofNat (48 + d)) = some d := by
  have e : (UInt8.ofNat (48 + d)).toNat = 48 + d := by
    rw [UInt8.toNat_ofNat']; omega
  unfold Lib.digitVal
  rw [if_pos (by rw [e]; omega), e]
  congr 1; omega

theorem decFrom_dec (u : Nat) : Lib.decFrom 0 (Lib.decDigits u) = some u := by
  induction u using Nat.strongRecOn with
  | _ u ih =>
    by_cases h10 : u < 10
    · rw [Lib.decDigits_one h10]
      simp only [Lib.decFrom, digitVal_dig u h10]
      simp
    · rw [Lib.decDigits, dif_neg h10, decFrom_snoc, ih (u / 10) (by omega), digitVal_dig _ (by omega)]
      simp only [Option.bind_some, Option.map_some]
      congr 1; omega

theorem nDigits_pow (k u : Nat) (h : u < 10 ^ (k + 1)) : Lib.nDigits u ≤ k + 1 := by
  induction k generalizing u with
  | zero => rw [Lib.nDigits_small (by simpa using h)]; exact Nat.le_refl _
  | succ k ih =>
    by_cases h10 : u < 10
    · rw [Lib.nDigits_small h10]; omega
    · rw [Lib.nDigits_big h10]
      have := ih (u / 10) (by rw [Nat.pow_succ] at h; omega)
      omega

/-- l is the numeral of n, and n lies in the range 0 to MaxValue. -/
def Num (l : List UInt8) (n : Int) : Prop := 0 ≤ n ∧ n ≤ 1000000000000 ∧ Lib.itoa n = l

theorem itoa_nonneg {n : Int} (h : 0 ≤ n) : Lib.itoa n = Lib.decDigits n.toNat := by
  unfold Lib.itoa; rw [if_neg (by omega)]
theorem Num.length {l : List UInt8} {n : Int} (h : Num l n) : 1 ≤ l.length ∧ l.length ≤ 13 := by
  obtain ⟨h0, h1, h2⟩ := h
  rw [← h2, itoa_nonneg h0, Lib.decDigits_length]
  exact ⟨Lib.nDigits_pos _, nDigits_pow 12 _ (by show _ < 10000000000000; omega)⟩
theorem Num.dec {l : List UInt8} {n : Int} (h : Num l n) : Lib.decFrom 0 l = some n.toNat := by
  obtain ⟨h0, h1, h2⟩ := h
  rw [← h2, itoa_nonneg h0]; exact decFrom_dec _
theorem Num.digit {l : List UInt8} {n : Int} (h : Num l n) (k : Nat) (b : UInt8) (hb : l[k]? = some b) : 48 ≤ b.toNat ∧ b.toNat ≤ 57 := by
  obtain ⟨d, hd⟩ := Lib.digit_of_decFrom l 0 _ h.dec k b hb
  unfold Lib.digitVal at hd
  split at hd
  · assumption
  · cases hd
theorem Num.atoi {l : List UInt8} {n : Int} (h : Num l n) : Lib.atoiAll l = .ok n := by
  have hl := h.length
  have hd := h.dec
  rw [Lib.atoiAll_short l (by omega)]
  have ha : Lib.atoi l = some n := by
    cases l with
    | nil => simp at hl
    | cons b r =>
      have hb := h.digit 0 b rfl
      have e1 : (b == 45) = false := by
        rw [beq_eq_false_iff_ne]; intro e; subst e; revert hb; decide
      have e2 : (b == 43) = false := by
        rw [beq_eq_false_iff_ne]; intro e; subst e; revert hb; decide
      simp only [Lib.atoi, e1, e2, Lib.decNat, List.isEmpty_cons, Bool.false_eq_true, if_false, hd, Option.map_some]
      congr 1
      have := h.1
      omega
  rw [ha]; rfl
theorem Num.unique {l : List UInt8} {n m : Int} (h : Num l n) (h' : Num l m) : n = m := by
  have h1 := h.atoi
  rw [h'.atoi] at h1
  injection h1 with e
  exact e.symm

/-- ParseInt's two results. -/
def pOk (l : List UInt8) : Bool := match Lib.atoiAll l with
  | .ok v => decide (0 ≤ v) && decide (v ≤ 1000000000000) && (Lib.itoa v == l)
  | _ => false
def pVal (l : List UInt8) : Int := if pOk l then (match Lib.atoiAll l with | .ok v => v | _ => 0) else 0

theorem Num.ok {l : List UInt8} {n : Int} (h : Num l n) : pOk l = true := by
  unfold pOk; rw [h.atoi]; simp [h.1, h.2.1, h.2.2]
theorem Num.val {l : List UInt8} {n : Int} (h : Num l n) : pVal l = n := by
  unfold pVal; rw [h.ok, h.atoi]; rfl
theorem pOk_num {l : List UInt8} (h : pOk l = true) : Num l (pVal l) := by
  unfold pOk at h
  split at h
  · rename_i v ha
    simp only [Bool.and_eq_true, decide_eq_true_eq, beq_iff_eq] at h
    have : Num l v := ⟨h.1.1, h.1.2, h.2⟩
    rw [this.val]; exact this
  · cases h
theorem pVal_no {l : List UInt8} (h : pOk l = false) : pVal l = 0 := by unfold pVal; rw [h]; rfl
theorem not_num {l : List UInt8} (h : pOk l = false) (n : Int) : ¬ Num l n := fun hn => by rw [hn.ok] at h; cases h
theorem pVal_bounds (l : List UInt8) : 0 ≤ pVal l ∧ pVal l ≤ 1000000000000 := by
  cases h : pOk l with
  | true => exact ⟨(pOk_num h).1, (pOk_num h).2.1⟩
  | false => rw [pVal_no h]; omega

end Go.Proofs.Ytpapncecfleejaa.L1
