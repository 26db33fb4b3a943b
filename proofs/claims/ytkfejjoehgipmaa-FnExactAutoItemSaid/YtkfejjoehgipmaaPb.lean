/-
  A pack, laid by my program pack.py: the texts L3Num, L3Hash, L3Fn, L1Num, L1Fmt, L4Num, L4Par, L4Sp, L4Cmp, L4Cod, L4Dec, L4Law, L4Open, L4Im0, Reg, L3Enc, Sd3, Sd4, Sd4b, one behind the other; each begins with its own words.
-/
import Derived.Test.YtkfejjoehgipmaaPa
import Derived.Lib.ConvBytes
import Derived.Lib.ItoaNum
import Derived.Lib.ItoaLen
import Derived.Lib.AtoiTie
import Derived.Lib.AtoiAllCases
import Derived.Outline
import Derived.IntWalk
import Derived.WalkLawsBesides
import Derived.WalkSpells
import GoSem.Op.String
import Derived.ChangeArms
import Derived.Deep.RegionHeld3
import Derived.Test.YtkfejjoehgipmaaRows
import Derived.Deep.AppendLies
import Derived.Deep.RegionWith
/-
  Plain mathematics of chapter 3: the hash, that it depends on each value, the cipher, that each direction inverts the other. No condition.
-/
namespace Go.Proofs.Ytkfejjoehgipmaa.L3
set_option maxRecDepth 100000

def hstep (d v : Int) : Int := (d * 1000003 + v % 2147483647 + 13) % 2147483647
def hfold (d : Int) (l : List Int) : Int := l.foldl hstep d
def hs (l : List Int) : Int := hfold 11 l
def kh (k : Int) (l : List Int) : Int := hs (k :: (l ++ [k]))
def encB (k : Int) (i : Nat) (b : Int) : Int := (b + kh k [(i : Int)] % 256) % 256
def decB (k : Int) (i : Nat) (b : Int) : Int := (b - kh k [(i : Int)] % 256) % 256
def encL (k : Int) (l : List Int) : List Int := l.mapIdx (encB k)
def decL (k : Int) (l : List Int) : List Int := l.mapIdx (decB k)
@[simp] theorem encL_length (k : Int) (l : List Int) : (encL k l).length = l.length := by simp [encL]
@[simp] theorem decL_length (k : Int) (l : List Int) : (decL k l).length = l.length := by simp [decL]
end Go.Proofs.Ytkfejjoehgipmaa.L3

/-
  The contracts of chapter 3's hash: fold, Hash, KeyedHash, of the specification and of the program. Conditions: the slice reads as a list of at most 2^40 numbers; the accumulator is a remainder modulo Modulus.
-/
namespace Go.Proofs.Ytkfejjoehgipmaa.L3
set_option maxRecDepth 100000
open Go.ChangeShapes Go.WideShapes Go.ChangeAt Go.RowKit Mem Sl Ex L2
set_option linter.unusedVariables false

theorem own_lit (w : World) (e : TypeId) (k : IntKind) (l : List Int) {B : Nat} (hB : B ≤ w.heap.size) (hl : l.length ≤ maxLen) : Own (w.alloc (.cells (ints k l).toArray e)) B e k (some ⟨w.heap.size, 0, none⟩) l.length l :=
  ⟨by simp, .inr ⟨w.heap.size, l.length, (ints k l).toArray, rfl, hB, heap_alloc_new w _, Nat.le_refl _, hl, by simp, by rw [Nat.mul_one]; exact List.take_of_length_le (by simp)⟩⟩
end Go.Proofs.Ytkfejjoehgipmaa.L3

/-
  The contracts of chapter 3's other functions: BytesToInts, DeriveFromString, IsValidKey, Encrypt, Decrypt, of the specification and of the program. Conditions: the slice reads as a list of at most 2^40 bytes (2^27 where the specification's Encrypt is called).
-/
namespace Go.Proofs.Ytkfejjoehgipmaa.L3
set_option maxRecDepth 100000
open Go.ChangeShapes Go.WideShapes Go.ChangeAt Go.RowKit Mem Sl Ex L2
set_option linter.unusedVariables false



/-! ### a string's bytes -/
def strB (s : ByteArray) : List Int := s.data.toList.map fun b => (b.toNat : Int)
theorem strB_length (s : ByteArray) : (strB s).length = s.size := by unfold strB; rw [List.length_map, Array.length_toList]; rfl
theorem strB_reads (w : World) (e : TypeId) (s : ByteArray) : Reads (Lib.bytesWorld w e s) (Lib.bytesWorld w e s).heap.size (some ⟨w.heap.size, 0, none⟩) (ints .u8 (strB s)) := fun j hj => by
  have hj' : j < s.size := by rw [ints_length, strB_length] at hj; exact hj
  refine ⟨_, rfl, by rw [Lib.bytesWorld_size]; simp, ?_⟩
  have h1 := Lib.bytesWorld_cell w e s j hj'
  have hj2 : j < s.data.toList.length := by rw [Array.length_toList]; exact hj'
  rw [Addr.add_lit, Nat.zero_add, h1, ints_get _ _ _ (by rw [strB_length]; exact hj')]
  unfold strB
  rw [List.getElem_map, List.getD_eq_getElem?_getD, List.getElem?_eq_getElem hj2]
  rfl
theorem strB_below (w : World) (e : TypeId) (s : ByteArray) : Below w.heap.size w (Lib.bytesWorld w e s) :=
  ⟨rfl, by unfold Lib.bytesWorld World.freeze; rfl, rfl, by rw [Lib.bytesWorld_size]; omega, fun j hj => Lib.bytesWorld_at_old w e s j hj⟩

end Go.Proofs.Ytkfejjoehgipmaa.L3

/-
  Plain facts on decimal numerals, of no program: the digits that FormatInt's loop lays, that a numeral is parsed back to its number, and when a string is the numeral of a number in the range 0 to MaxValue. No condition.
-/
namespace Go.Proofs.Ytkfejjoehgipmaa.L1
set_option maxRecDepth 100000

def digs (u : Nat) : List UInt8 :=
  if _h : u = 0 then [] else digs (u / 10) ++ [UInt8.ofNat (48 + u % 10)]
termination_by u
decreasing_by omega

theorem digs_zero : digs 0 = [] := by rw [digs, dif_pos rfl]
theorem digs_step {u : Nat} (h : u ≠ 0) : digs u = digs (u / 10) ++ [UInt8.ofNat (48 + u % 10)] := by rw [digs, dif_neg h]
theorem digs_eq (u : Nat) (h : u ≠ 0) : digs u = Lib.decDigits u := by
  induction u using Nat.strongRecOn with
  | _ u ih =>
    rw [digs_step h]
    by_cases h10 : u < 10
    · rw [Lib.decDigits, dif_pos h10, show u / 10 = 0 by omega, digs_zero, Nat.mod_eq_of_lt h10]; rfl
    · rw [Lib.decDigits, dif_neg h10, ih (u / 10) (by omega) (by omega)]
theorem digs_length (u : Nat) : (digs u).length ≤ Lib.nDigits u := by
  by_cases h : u = 0
  · subst h; rw [digs_zero]; exact Nat.zero_le _
  · rw [digs_eq u h, Lib.decDigits_length]; exact Nat.le_refl _

theorem decFrom_snoc (l : List UInt8) (b : UInt8) : ∀ acc, Lib.decFrom acc (l ++ [b]) = (Lib.decFrom acc l).bind fun n => (Lib.digitVal b).map fun d => n * 10 + d := by
  induction l with
  | nil =>
    intro acc
    simp only [List.nil_append, Lib.decFrom]
    cases Lib.digitVal b <;> rfl
  | cons a t ih =>
    intro acc
    simp only [List.cons_append, Lib.decFrom]
    cases Lib.digitVal a with
    | none => rfl
    | some d => exact ih _

theorem digitVal_dig (d : Nat) (h : d < 10) : Lib.digitVal (UInt8.ofNat (48 + d)) = some d := by
  have e : (UInt8.ofNat (48 + d)).toNat = 48 + d := by
    rw [UInt8.toNat_ofNat']; omega
  unfold Lib.digitVal
  rw [if_pos (by rw [e]; omega), e]
  congr 1; omega

theorem decFrom_dec (u : Nat) : Lib.decFrom 0 (Lib.decDigits u) = some u := by
  induction u using Nat.strongRecOn with
  | _ u ih =>
    by_cases h10 : u < 10
    · rw [Lib.decDigits_one h10]
      simp only [Lib.decFrom, digitVal_dig u h10]
      simp
    · rw [Lib.decDigits, dif_neg h10, decFrom_snoc, ih (u / 10) (by omega), digitVal_dig _ (by omega)]
      simp only [Option.bind_some, Option.map_some]
      congr 1; omega

theorem nDigits_pow (k u : Nat) (h : u < 10 ^ (k + 1)) : Lib.nDigits u ≤ k + 1 := by
  induction k generalizing u with
  | zero => rw [Lib.nDigits_small (by simpa using h)]; exact Nat.le_refl _
  | succ k ih =>
    by_cases h10 : u < 10
    · rw [Lib.nDigits_small h10]; omega
    · rw [Lib.nDigits_big h10]
      have := ih (u / 10) (by rw [Nat.pow_succ] at h; omega)
      omega

def Num (l : List UInt8) (n : Int) : Prop := 0 ≤ n ∧ n ≤ 1000000000000 ∧ Lib.itoa n = l

theorem itoa_nonneg {n : Int} (h : 0 ≤ n) : Lib.itoa n = Lib.decDigits n.toNat := by
  unfold Lib.itoa; rw [if_neg (by omega)]
theorem Num.length {l : List UInt8} {n : Int} (h : Num l n) : 1 ≤ l.length ∧ l.length ≤ 13 := by
  obtain ⟨h0, h1, h2⟩ := h
  rw [← h2, itoa_nonneg h0, Lib.decDigits_length]
  exact ⟨Lib.nDigits_pos _, nDigits_pow 12 _ (by show _ < 10000000000000; omega)⟩
theorem Num.dec {l : List UInt8} {n : Int} (h : Num l n) : Lib.decFrom 0 l = some n.toNat := by
  obtain ⟨h0, h1, h2⟩ := h
  rw [← h2, itoa_nonneg h0]; exact decFrom_dec _
theorem Num.digit {l : List UInt8} {n : Int} (h : Num l n) (k : Nat) (b : UInt8) (hb : l[k]? = some b) : 48 ≤ b.toNat ∧ b.toNat ≤ 57 := by
  obtain ⟨d, hd⟩ := Lib.digit_of_decFrom l 0 _ h.dec k b hb
  unfold Lib.digitVal at hd
  split at hd
  · assumption
  · cases hd
theorem Num.atoi {l : List UInt8} {n : Int} (h : Num l n) : Lib.atoiAll l = .ok n := by
  have hl := h.length
  have hd := h.dec
  rw [Lib.atoiAll_short l (by omega)]
  have ha : Lib.atoi l = some n := by
    cases l with
    | nil => simp at hl
    | cons b r =>
      have hb := h.digit 0 b rfl
      have e1 : (b == 45) = false := by
        rw [beq_eq_false_iff_ne]; intro e; subst e; revert hb; decide
      have e2 : (b == 43) = false := by
        rw [beq_eq_false_iff_ne]; intro e; subst e; revert hb; decide
      simp only [Lib.atoi, e1, e2, Lib.decNat, List.isEmpty_cons, Bool.false_eq_true, if_false, hd, Option.map_some]
      congr 1
      have := h.1
      omega
  rw [ha]; rfl
def pOk (l : List UInt8) : Bool := match Lib.atoiAll l with
  | .ok v => decide (0 ≤ v) && decide (v ≤ 1000000000000) && (Lib.itoa v == l)
  | _ => false
def pVal (l : List UInt8) : Int := if pOk l then (match Lib.atoiAll l with | .ok v => v | _ => 0) else 0

theorem Num.ok {l : List UInt8} {n : Int} (h : Num l n) : pOk l = true := by
  unfold pOk; rw [h.atoi]; simp [h.1, h.2.1, h.2.2]
theorem Num.val {l : List UInt8} {n : Int} (h : Num l n) : pVal l = n := by
  unfold pVal; rw [h.ok, h.atoi]; rfl
end Go.Proofs.Ytkfejjoehgipmaa.L1

/-
  The contract of the specification's FormatInt: the decimal numeral of n, for every int. New memory only.
-/
namespace Go.Proofs.Ytkfejjoehgipmaa.L1
set_option maxRecDepth 100000
open Go.ChangeShapes Go.WideShapes Go.ChangeAt Go.RowKit

def FmtRel (n : Int) (s x : Value) (w w' : World) : Prop :=
  ∃ (y : Int) (l : List UInt8), x = .int .i64 y ∧ s = .string ⟨l.toArray⟩ ∧ digs y.natAbs ++ l = digs n.natAbs ∧ (0 ≤ n → 0 ≤ y) ∧ (n ≤ 0 → y ≤ 0) ∧ -9223372036854775808 ≤ y ∧ y ≤ 9223372036854775807 ∧ Below w.heap.size w w'

theorem tmod10_nat (y : Int) : (y.tmod 10).natAbs = y.natAbs % 10 := by
  rw [Int.natAbs_tmod]; rfl
theorem tdiv10_nat (y : Int) : (y.tdiv 10).natAbs = y.natAbs / 10 := by
  rw [Int.natAbs_tdiv]; rfl
theorem conv_one (w : World) (y d : Int) (h0 : 0 ≤ d) (h : d.natAbs = y.natAbs % 10) :
    (convert 22 9 (.slice (some ⟨w.heap.size, 0, none⟩) 1 1)).run Try.prog (w.alloc (.cells #[.int .u8 (48 + d)] 5)) = .ok (.string ⟨[UInt8.ofNat (48 + y.natAbs % 10)].toArray⟩) (w.alloc (.cells #[.int .u8 (48 + d)] 5)) :=
  run_convert_bytes_back (P := Try.prog) _ 22 9 5 ⟨w.heap.size, 0, none⟩ 1 [UInt8.ofNat (48 + y.natAbs % 10)] Try.underlying22 Try.underlying5 Try.underlying9 (fun j hj => by
    obtain rfl : j = 0 := by simp at hj; omega
    simp [go_sem]
    omega)

theorem fmt_next (n y : Int) (l : List UInt8) (w w' : World) (hy : y ≠ 0) (hd : digs y.natAbs ++ l = digs n.natAbs) (h : (0 ≤ n → 0 ≤ y) ∧ (n ≤ 0 → y ≤ 0)) (hy0 : -9223372036854775808 ≤ y) (hy1 : y ≤ 9223372036854775807) (hb : Below w.heap.size w w') :
    FmtRel n (.string (⟨#[48 + UInt8.ofNat (y.natAbs % 10)]⟩ ++ ⟨l.toArray⟩)) (.int .i64 (y.tdiv 10)) w w' ∧ (intOf (.int .i64 (y.tdiv 10))).natAbs < (intOf (.int .i64 y)).natAbs := by
  have hq := tdiv10_nat y
  have hs : 0 ≤ y → 0 ≤ y.tdiv 10 := fun h => Int.tdiv_nonneg h (by decide)
  have hs' : y ≤ 0 → y.tdiv 10 ≤ 0 := fun h => by
    have := Int.tdiv_nonneg (a := -y) (b := 10) (by omega) (by decide)
    rw [Int.neg_tdiv] at this
    omega
  refine ⟨⟨y.tdiv 10, (48 + UInt8.ofNat (y.natAbs % 10)) :: l, rfl, rfl, ?_, fun a => hs (h.1 a), fun a => hs' (h.2 a), by omega, by omega, hb⟩, by simp only [intOf]; omega⟩
  rw [hq, ← hd, digs_step (u := y.natAbs) (by omega), List.append_assoc, UInt8.ofNat_add]
  rfl


end Go.Proofs.Ytkfejjoehgipmaa.L1

/-
  Plain mathematics of chapter 4: keys, their order, their bytes, their texts: the bytes are ordered like the keys, and a key is told by its bytes and by its text. No condition.
-/
namespace Go.Proofs.Ytkfejjoehgipmaa.L4
set_option maxRecDepth 100000
open Go.Op (bytesLess)

/-! ### byte strings in order -/
theorem less_irrefl : ∀ (a : List UInt8), bytesLess a a = false
  | [] => rfl
  | x :: r => by simp [bytesLess, less_irrefl r]
theorem less_total : ∀ (a b : List UInt8), a ≠ b → bytesLess a b = false → bytesLess b a = true
  | [], [], h, _ => absurd rfl h
  | _ :: _, [], _, _ => rfl
  | [], _ :: _, _, h => by simp [bytesLess] at h
  | a :: x, b :: y, hne, h => by
    simp only [bytesLess, Bool.or_eq_false_iff, decide_eq_false_iff_not, UInt8.not_lt] at h
    obtain ⟨h1, h2⟩ := h
    by_cases e : a = b
    · subst e
      simp at h2
      have := less_total x y (fun e2 => hne (by rw [e2])) h2
      simp [bytesLess, this]
    · have : b < a := by
        rcases UInt8.lt_or_eq_of_le h1 with h3 | h3
        · exact h3
        · exact absurd h3.symm e
      simp [bytesLess, this]
theorem less_asymm : ∀ (a b : List UInt8), bytesLess a b = true → bytesLess b a = false
  | [], [], h => by simp [bytesLess] at h
  | _ :: _, [], h => by simp [bytesLess] at h
  | [], _ :: _, _ => rfl
  | a :: x, b :: y, h => by
    simp only [bytesLess, Bool.or_eq_true, decide_eq_true_eq, Bool.and_eq_true, beq_iff_eq] at h
    simp only [bytesLess, Bool.or_eq_false_iff, decide_eq_false_iff_not, UInt8.not_lt, Bool.and_eq_false_imp, beq_iff_eq]
    rcases h with h | ⟨rfl, h⟩
    · exact ⟨UInt8.le_of_lt h, fun e => by subst e; exact absurd h (UInt8.lt_irrefl _)⟩
    · exact ⟨UInt8.le_refl _, fun _ => less_asymm x y h⟩
theorem less_trans : ∀ (a b c : List UInt8), bytesLess a b = true → bytesLess b c = true → bytesLess a c = true
  | [], [], _, h1, _ => by simp [bytesLess] at h1
  | _ :: _, [], _, h1, _ => by simp [bytesLess] at h1
  | _, _ :: _, [], _, h2 => by simp [bytesLess] at h2
  | [], _ :: _, _ :: _, _, _ => by simp [bytesLess]
  | a :: x, b :: y, c :: z, h1, h2 => by
    simp only [bytesLess, Bool.or_eq_true, decide_eq_true_eq, Bool.and_eq_true, beq_iff_eq] at h1 h2 ⊢
    rcases h1 with h1 | ⟨rfl, h1⟩ <;> rcases h2 with h2 | ⟨rfl, h2⟩
    · exact .inl (UInt8.lt_trans h1 h2)
    · exact .inl h1
    · exact .inl h2
    · exact .inr ⟨rfl, less_trans x y z h1 h2⟩
theorem less_append : ∀ (x y u v : List UInt8), x.length = y.length → bytesLess (x ++ u) (y ++ v) = (bytesLess x y || (x == y && bytesLess u v))
  | [], [], u, v, _ => by simp [bytesLess]
  | _ :: _, [], _, _, h => by simp at h
  | [], _ :: _, _, _, h => by simp at h
  | a :: x, b :: y, u, v, h => by
    have ih := less_append x y u v (by simpa using h)
    simp only [List.cons_append, bytesLess, ih, List.cons_beq_cons]
    cases decide (a < b) <;> cases hab : (a == b) <;> simp

def sgn (a b : Bool) : Int := if a then -1 else if b then 1 else 0
def cmpL (x y : List UInt8) : Int := sgn (bytesLess x y) (!(bytesLess x y || x == y))
theorem cmpL_less {x y : List UInt8} (h : bytesLess x y = true) : cmpL x y = -1 := by simp [cmpL, sgn, h]
theorem cmpL_refl (x : List UInt8) : cmpL x x = 0 := by simp [cmpL, sgn, less_irrefl]
theorem cmpL_more {x y : List UInt8} (h : bytesLess y x = true) : cmpL x y = 1 := by
  have h1 := less_asymm y x h
  have h2 : x ≠ y := fun e => by subst e; rw [less_irrefl] at h; cases h
  simp [cmpL, sgn, h1, h2]
theorem cmpL_cases (x y : List UInt8) : (bytesLess x y = true ∧ cmpL x y = -1) ∨ (x = y ∧ cmpL x y = 0) ∨ (bytesLess y x = true ∧ cmpL x y = 1) := by
  cases h : bytesLess x y with
  | true => exact .inl ⟨rfl, cmpL_less h⟩
  | false =>
    by_cases e : x = y
    · subst e; exact .inr (.inl ⟨rfl, cmpL_refl x⟩)
    · have := less_total x y e h
      exact .inr (.inr ⟨this, cmpL_more this⟩)
theorem cmpL_swap (x y : List UInt8) : cmpL y x = -cmpL x y := by
  rcases cmpL_cases x y with ⟨h, e⟩ | ⟨rfl, e⟩ | ⟨h, e⟩
  · rw [e, cmpL_more h]; rfl
  · rw [e]; rfl
  · rw [e, cmpL_less h]
theorem cmpL_zero {x y : List UInt8} : cmpL x y = 0 ↔ x = y := by
  rcases cmpL_cases x y with ⟨h, e⟩ | ⟨rfl, e⟩ | ⟨h, e⟩
  · rw [e]; exact ⟨fun h => by omega, fun e => by subst e; rw [less_irrefl] at h; cases h⟩
  · exact ⟨fun _ => rfl, fun _ => e⟩
  · rw [e]; exact ⟨fun h => by omega, fun e => by subst e; rw [less_irrefl] at h; cases h⟩
theorem cmpL_append (x y u v : List UInt8) (h : x.length = y.length) : cmpL (x ++ u) (y ++ v) = if x = y then cmpL u v else cmpL x y := by
  by_cases e : x = y
  · subst e
    rw [if_pos rfl]
    have e2 : (x ++ u == x ++ v) = (u == v) := by rw [Bool.eq_iff_iff, beq_iff_eq, beq_iff_eq, List.append_cancel_left_eq]
    simp [cmpL, less_append, less_irrefl, e2]
  · rw [if_neg e]
    have e2 : (x ++ u == y ++ v) = false := by
      rw [beq_eq_false_iff_ne]
      exact fun h2 => e (List.append_inj h2 h).1
    have e3 : (x == y) = false := by simpa using e
    simp only [cmpL, less_append x y u v h, e2, e3, Bool.false_and, Bool.or_false]

/-! ### a number's bytes, the greatest first -/
def be : Nat → Nat → List UInt8
  | 0, _ => []
  | k + 1, m => UInt8.ofNat (m / 256 ^ k % 256) :: be k m
@[simp] theorem be_length : ∀ (k m : Nat), (be k m).length = k
  | 0, _ => rfl
  | k + 1, m => by simp [be, be_length k m]
theorem be_mod : ∀ (k m : Nat), be k m = be k (m % 256 ^ k)
  | 0, _ => rfl
  | k + 1, m => by
    have e1 : m % 256 ^ (k + 1) / 256 ^ k % 256 = m / 256 ^ k % 256 := by
      rw [Nat.pow_succ, Nat.mod_mul_right_div_self, Nat.mod_mod]
    have e2 : m % 256 ^ (k + 1) % 256 ^ k = m % 256 ^ k := Nat.mod_mod_of_dvd m ⟨256, by rw [Nat.pow_succ]⟩
    simp only [be, e1]
    rw [be_mod k m, be_mod k (m % 256 ^ (k + 1)), e2]
theorem ofNat_lt {a b : Nat} (ha : a < 256) (hb : b < 256) : (UInt8.ofNat a < UInt8.ofNat b) ↔ a < b := by
  rw [UInt8.lt_iff_toNat_lt, UInt8.toNat_ofNat', UInt8.toNat_ofNat', Nat.mod_eq_of_lt ha, Nat.mod_eq_of_lt hb]
theorem ofNat_inj {a b : Nat} (ha : a < 256) (hb : b < 256) (h : UInt8.ofNat a = UInt8.ofNat b) : a = b := by
  have := congrArg UInt8.toNat h
  rwa [UInt8.toNat_ofNat', UInt8.toNat_ofNat', Nat.mod_eq_of_lt ha, Nat.mod_eq_of_lt hb] at this
theorem be_less : ∀ (k m n : Nat), m < 256 ^ k → n < 256 ^ k → bytesLess (be k m) (be k n) = decide (m < n)
  | 0, m, n, hm, hn => by
    simp at hm hn
    subst hm; subst hn
    rfl
  | k + 1, m, n, hm, hn => by
    have hp : 0 < 256 ^ k := Nat.pow_pos (by decide)
    have qm : m / 256 ^ k < 256 := Nat.div_lt_of_lt_mul (by rw [Nat.pow_succ] at hm; exact hm)
    have qn : n / 256 ^ k < 256 := Nat.div_lt_of_lt_mul (by rw [Nat.pow_succ] at hn; exact hn)
    have ih := be_less k (m % 256 ^ k) (n % 256 ^ k) (Nat.mod_lt _ hp) (Nat.mod_lt _ hp)
    rw [← be_mod, ← be_mod] at ih
    simp only [be, bytesLess, ih, Nat.mod_eq_of_lt qm, Nat.mod_eq_of_lt qn]
    have dm := Nat.div_add_mod m (256 ^ k)
    have dn := Nat.div_add_mod n (256 ^ k)
    rcases Nat.lt_trichotomy (m / 256 ^ k) (n / 256 ^ k) with h | h | h
    · rw [decide_eq_true ((ofNat_lt qm qn).2 h), Bool.true_or]
      symm
      rw [decide_eq_true_iff]
      exact Nat.lt_of_div_lt_div h
    · have e1 : (UInt8.ofNat (m / 256 ^ k) < UInt8.ofNat (n / 256 ^ k)) = False := by rw [h]; simp [UInt8.lt_irrefl]
      have e2 : (UInt8.ofNat (m / 256 ^ k) == UInt8.ofNat (n / 256 ^ k)) = true := by rw [h]; simp
      rw [decide_eq_false (by rw [e1]; exact id), e2, Bool.false_or, Bool.true_and]
      rw [h] at dm
      rw [decide_eq_decide]
      omega
    · rw [decide_eq_false (fun h2 => by rw [ofNat_lt qm qn] at h2; omega)]
      have e2 : (UInt8.ofNat (m / 256 ^ k) == UInt8.ofNat (n / 256 ^ k)) = false := by
        rw [beq_eq_false_iff_ne]
        exact fun e => by have := ofNat_inj qm qn e; omega
      rw [e2, Bool.false_and, Bool.or_false]
      symm
      rw [decide_eq_false_iff_not]
      have := Nat.lt_of_div_lt_div h
      omega
theorem be_inj (k m n : Nat) (hm : m < 256 ^ k) (hn : n < 256 ^ k) (h : be k m = be k n) : m = n := by
  have h1 := be_less k m n hm hn
  have h2 := be_less k n m hn hm
  rw [h, less_irrefl] at h1
  rw [h, less_irrefl] at h2
  have a := of_decide_eq_false h1.symm
  have b := of_decide_eq_false h2.symm
  omega

/-! ### keys -/
structure K where
  kind : Int
  n : Int
  text : ByteArray
def K.t (k : K) : List UInt8 := k.text.data.toList
theorem K.ext' {a b : K} (h1 : a.kind = b.kind) (h2 : a.n = b.n) (h3 : a.t = b.t) : a = b := by
  obtain ⟨k1, n1, ⟨⟨t1⟩⟩⟩ := a
  obtain ⟨k2, n2, ⟨⟨t2⟩⟩⟩ := b
  simp only [K.t] at h1 h2 h3
  subst h1; subst h2; subst h3
  rfl
def K.zero : K := ⟨0, 0, ⟨#[]⟩⟩
def chr (b : UInt8) : Bool := (decide (97 ≤ b.toNat) && decide (b.toNat ≤ 122)) || (decide (48 ≤ b.toNat) && decide (b.toNat ≤ 57))
def isT (l : List UInt8) : Bool := l.all chr && decide (l.length ≤ 12)
def isK (k : K) : Bool := L1.inB k.kind 1 3 && L1.inB k.n (-1000000000000) 1000000000000 && (k.kind != 2 || k.n == 0) && isT k.t && (k.kind != 1 || k.t == [])
structure Good (k : K) : Prop where
  k0 : 1 ≤ k.kind
  k1 : k.kind ≤ 3
  n0 : -1000000000000 ≤ k.n
  n1 : k.n ≤ 1000000000000
  n2 : k.kind = 2 → k.n = 0
  t : isT k.t = true
  t1 : k.kind = 1 → k.t = []
theorem isK_iff {k : K} : isK k = true ↔ Good k := by
  unfold isK
  simp only [Bool.and_eq_true, Bool.or_eq_true, bne_iff_ne, beq_iff_eq, L1.inB_true]
  constructor
  · rintro ⟨⟨⟨⟨⟨a, b⟩, c, d⟩, e⟩, f⟩, g⟩
    exact ⟨a, b, c, d, fun h => e.resolve_left (fun h2 => h2 h), f, fun h => g.resolve_left (fun h2 => h2 h)⟩
  · rintro ⟨a, b, c, d, e, f, g⟩
    refine ⟨⟨⟨⟨⟨a, b⟩, c, d⟩, ?_⟩, f⟩, ?_⟩
    · by_cases h : k.kind = 2
      · exact .inr (e h)
      · exact .inl h
    · by_cases h : k.kind = 1
      · exact .inr (g h)
      · exact .inl h
def cmpK (a b : K) : Int :=
  if !(isK a) || !(isK b) then 0 else if a.kind ≠ b.kind then sgn (decide (a.kind < b.kind)) true else if a.n ≠ b.n then sgn (decide (a.n < b.n)) true else cmpL a.t b.t
def num6 (k : K) : List UInt8 := if k.kind = 2 then [] else be 6 (k.n + 1000000000000).toNat
def encU (k : K) : List UInt8 := if isK k then UInt8.ofNat k.kind.toNat :: (num6 k ++ k.t) else []
theorem encU_good {k : K} (h : isK k = true) : encU k = UInt8.ofNat k.kind.toNat :: (num6 k ++ k.t) := by unfold encU; rw [if_pos h]
theorem cmpL_cons (a b : UInt8) (x y : List UInt8) : cmpL (a :: x) (b :: y) = if a = b then cmpL x y else cmpL [a] [b] := by
  have := cmpL_append [a] [b] x y rfl
  simpa using this
theorem cmpL_one {a b : Nat} (ha : a < 256) (hb : b < 256) (h : a ≠ b) : cmpL [UInt8.ofNat a] [UInt8.ofNat b] = sgn (decide (a < b)) true := by
  rcases Nat.lt_or_gt_of_ne h with h | h
  · rw [cmpL_less (by simp [bytesLess, ofNat_lt ha hb, h])]
    simp [sgn, h]
  · rw [cmpL_more (by simp [bytesLess, ofNat_lt hb ha, h])]
    have : ¬ a < b := by omega
    simp [sgn, this]
theorem cmp_enc {a b : K} (ha : isK a = true) (hb : isK b = true) : cmpL (encU a) (encU b) = cmpK a b := by
  have ga := isK_iff.1 ha
  have gb := isK_iff.1 hb
  have k1 := ga.k0; have k2 := ga.k1; have k3 := gb.k0; have k4 := gb.k1
  rw [encU_good ha, encU_good hb, cmpL_cons]
  unfold cmpK
  rw [ha, hb]
  simp only [Bool.not_true, Bool.or_self, Bool.false_eq_true, if_false]
  by_cases hk : a.kind = b.kind
  · rw [if_pos (by rw [hk]), if_neg (fun h => h hk)]
    by_cases h2 : a.kind = 2
    · have e1 : num6 a = [] := by unfold num6; rw [if_pos h2]
      have e2 : num6 b = [] := by unfold num6; rw [if_pos (by omega)]
      rw [e1, e2, if_neg (fun h => h (by rw [ga.n2 h2, gb.n2 (by omega)]))]
      rfl
    · have e1 : num6 a = be 6 (a.n + 1000000000000).toNat := by unfold num6; rw [if_neg h2]
      have e2 : num6 b = be 6 (b.n + 1000000000000).toNat := by unfold num6; rw [if_neg (by omega)]
      have a0 := ga.n0; have a1 := ga.n1; have b0 := gb.n0; have b1 := gb.n1
      have p6 : (256 : Nat) ^ 6 = 281474976710656 := by decide
      rw [e1, e2, cmpL_append _ _ _ _ (by simp)]
      by_cases hn : a.n = b.n
      · rw [if_pos (by rw [hn]), if_neg (fun h => h hn)]
      · have hne : (a.n + 1000000000000).toNat ≠ (b.n + 1000000000000).toNat := by omega
        have hbn : be 6 (a.n + 1000000000000).toNat ≠ be 6 (b.n + 1000000000000).toNat := fun h => hne (be_inj 6 _ _ (by rw [p6]; omega) (by rw [p6]; omega) h)
        rw [if_neg hbn, if_pos hn]
        have e3 : (be 6 (a.n + 1000000000000).toNat == be 6 (b.n + 1000000000000).toNat) = false := by simpa using hbn
        unfold cmpL
        rw [e3, be_less 6 _ _ (by rw [p6]; omega) (by rw [p6]; omega), Bool.or_false]
        rw [show decide ((a.n + 1000000000000).toNat < (b.n + 1000000000000).toNat) = decide (a.n < b.n) by rw [decide_eq_decide]; omega]
        cases decide (a.n < b.n) <;> rfl
  · have hne : a.kind.toNat ≠ b.kind.toNat := by omega
    have hbn : UInt8.ofNat a.kind.toNat ≠ UInt8.ofNat b.kind.toNat := fun h => hne (ofNat_inj (by omega) (by omega) h)
    rw [if_neg hbn, if_pos hk, cmpL_one (by omega) (by omega) hne]
    rw [show decide (a.kind.toNat < b.kind.toNat) = decide (a.kind < b.kind) by rw [decide_eq_decide]; omega]
theorem enc_inj {a b : K} (ha : isK a = true) (hb : isK b = true) (h : encU a = encU b) : a = b := by
  have ga := isK_iff.1 ha
  have gb := isK_iff.1 hb
  have k1 := ga.k0; have k2 := ga.k1; have k3 := gb.k0; have k4 := gb.k1
  have hc := cmp_enc ha hb
  rw [h, cmpL_refl] at hc
  unfold cmpK at hc
  rw [ha, hb] at hc
  simp only [Bool.not_true, Bool.or_self, Bool.false_eq_true, if_false] at hc
  by_cases hk : a.kind = b.kind
  · rw [if_neg (fun h => h hk)] at hc
    by_cases hn : a.n = b.n
    · rw [if_neg (fun h => h hn)] at hc
      exact K.ext' hk hn (cmpL_zero.1 hc.symm)
    · rw [if_pos hn] at hc
      unfold sgn at hc
      split at hc <;> simp at hc
  · rw [if_pos hk] at hc
    unfold sgn at hc
    split at hc <;> simp at hc
theorem cmpK_zero {a b : K} (ha : isK a = true) (hb : isK b = true) : cmpK a b = 0 ↔ a = b := by
  rw [← cmp_enc ha hb, cmpL_zero]
  exact ⟨enc_inj ha hb, fun h => by rw [h]⟩
theorem cmpK_swap (a b : K) : cmpK b a = -cmpK a b := by
  cases ha : isK a with
  | false => simp [cmpK, ha]
  | true => cases hb : isK b with
    | false => simp [cmpK, hb]
    | true => rw [← cmp_enc ha hb, ← cmp_enc hb ha, cmpL_swap]
end Go.Proofs.Ytkfejjoehgipmaa.L4

/-
  Plain mathematics of chapter 4, on: a key is read back from its bytes and from its text, and only a key's bytes and text are read. No condition.
-/
namespace Go.Proofs.Ytkfejjoehgipmaa.L4
set_option maxRecDepth 100000
open L1

/-! ### bytes -/
def val (l : List UInt8) : Nat := l.foldl (fun n b => n * 256 + b.toNat) 0
def cand : List UInt8 → Option K
  | [] => none
  | b :: r => if b.toNat = 2 then some ⟨2, 0, ⟨r.toArray⟩⟩ else if r.length < 6 then none else some ⟨b.toNat, (val (r.take 6) : Int) - 1000000000000, ⟨(r.drop 6).toArray⟩⟩
def decO (l : List UInt8) : Option K := (cand l).filter isK
/-! ### texts -/
def hd (s : List UInt8) : List UInt8 := s.takeWhile (· != 39)
end Go.Proofs.Ytkfejjoehgipmaa.L4

/-
  The contracts of chapter 4's functions of the specification: l4Text, IsKey, l4Sign, CompareKeys, CompareBytes, InRangeOf. Conditions: a text of at most 2^48 bytes.
-/
namespace Go.Proofs.Ytkfejjoehgipmaa.L4
set_option maxRecDepth 100000
open Go.ChangeShapes Go.WideShapes Go.ChangeAt Go.RowKit Mem Sl Ex L2
set_option linter.unusedVariables false

def K.v (k : K) : Value := .agg #[.int .i64 k.kind, .int .i64 k.n, .string k.text]
def K.cells (k : K) : Array Value := #[.int .i64 k.kind, .int .i64 k.n, .string k.text]

theorem isT_no {s : List UInt8} (j : Nat) (b : UInt8) (hb : s[j]? = some b) (h : chr b = false) : isT s = false := by
  unfold isT
  rw [Bool.and_eq_false_iff]
  left
  rw [List.all_eq_false]
  exact ⟨b, List.mem_of_getElem? hb, by simp [h]⟩
theorem isT_all {s : List UInt8} (h : ∀ j (hj : j < s.length), chr s[j] = true) : isT s = decide (s.length ≤ 12) := by
  unfold isT
  rw [show s.all chr = true by rw [List.all_eq_true]; intro x hx; obtain ⟨i, hi, rfl⟩ := List.getElem_of_mem hx; exact h i hi, Bool.true_and]

theorem l4Text_any (s : ByteArray) (hs : s.size ≤ 281474976710656) (w : World) :
    Calls Try.prog 112 #[.string s] w fun e w' => e = .returned (.bool (isT s.data.toList)) ∧ w = w' := by
  have hsz : s.data.toList.length = s.size := by rw [Array.length_toList]; rfl
  have HZ := Lib.hid hsz
  clear hsz
  go_enter Try.func112, Try.ntmps112
  go_wp2
  go_loop [3] (fun i => ∃ k : Nat, k ≤ s.size ∧ i = .int .i64 k ∧ Hid (∀ j (hj : j < s.data.toList.length), j < k → chr s.data.toList[j] = true)) (fun i => s.size - (intOf i).toNat)
  case atStart => exact ⟨0, Nat.zero_le _, rfl, fun j hj h => by omega⟩
  case round =>
    obtain ⟨k, hk, rfl, hrel⟩ := hrel
    by_cases hlt : k < s.size
    · have hb : s.data.toList[k]? = some s[k] := by
        rw [List.getElem?_eq_getElem (by rw [HZ.out]; exact hlt)]
        rfl
      have HB := Lib.hid hb
      clear hb
      have hT : ∀ b : Bool, chr s[k] = b → Hid (chr s[k] = b) := fun b h => h
      rcases (show ((s[k].toNat : Int) < 48 ∧ chr s[k] = false) ∨ ((48 ≤ (s[k].toNat : Int) ∧ (s[k].toNat : Int) ≤ 57) ∧ chr s[k] = true) ∨ ((58 ≤ (s[k].toNat : Int) ∧ (s[k].toNat : Int) ≤ 96) ∧ chr s[k] = false) ∨ ((97 ≤ (s[k].toNat : Int) ∧ (s[k].toNat : Int) ≤ 122) ∧ chr s[k] = true) ∨ ((122 < (s[k].toNat : Int)) ∧ chr s[k] = false) by
        unfold chr
        simp only [Bool.or_eq_true, Bool.and_eq_true, Bool.or_eq_false_iff, Bool.and_eq_false_iff, decide_eq_true_eq, decide_eq_false_iff_not]
        omega) with ⟨h1, h2⟩ | ⟨⟨h1, h3⟩, h2⟩ | ⟨⟨h1, h3⟩, h2⟩ | ⟨⟨h1, h3⟩, h2⟩ | ⟨h1, h2⟩
      all_goals
        have H2 := hT _ h2
        clear h2 hT
        go_wp2
        first
        | (go_round
           case rel => exact ⟨k + 1, by omega, by go_num, fun j hj h => by
              by_cases e : j < k
              · exact hrel.out j hj e
              · obtain rfl : j = k := by omega
                have := HB.out
                rw [List.getElem?_eq_getElem hj] at this
                rw [Option.some.inj this]
                exact H2.out⟩
           case measure => simp [intOf]; omega)
        | (go_ret
           exact ⟨by rw [isT_no k _ HB.out H2.out]; rfl, rfl⟩)
    · by_cases h12 : (s.size : Int) ≤ 12
      all_goals
        go_wp2
        go_ret
        obtain rfl : k = s.size := by omega
        have e1 := isT_all (fun j hj => hrel.out j hj (by rw [HZ.out] at hj; exact hj))
        rw [HZ.out] at e1
        refine ⟨?_, rfl⟩
        rw [e1]
        first
        | (rw [decide_eq_true (show s.size ≤ 12 by omega)]; rfl)
        | (rw [decide_eq_false (show ¬ s.size ≤ 12 by omega)]; rfl)
set_option maxHeartbeats 2000000 in
theorem specIsKey_any (k : K) (hs : k.text.size ≤ 281474976710656) (w : World) :
    Calls Try.prog 64 #[k.v] w fun e w' => e = .returned (.bool (isK k)) ∧ Below w.heap.size w w' := by
  obtain ⟨kd, n, s⟩ := k
  unfold K.v
  obtain ⟨b1, hb1⟩ : ∃ b, L1.inB kd 1 3 = b := ⟨_, rfl⟩
  obtain ⟨b2, hb2⟩ : ∃ b, L1.inB n (-1000000000000) 1000000000000 = b := ⟨_, rfl⟩
  obtain ⟨b4, hb4⟩ : ∃ b, isT s.data.toList = b := ⟨_, rfl⟩
  have H1 := Lib.hid (fun w => L1.l1In_any kd 1 3 w)
  have H2 := Lib.hid (fun w => L1.l1In_any n (-1000000000000) 1000000000000 w)
  have H4 := Lib.hid (fun w => l4Text_any s hs w)
  rw [hb1] at H1
  rw [hb2] at H2
  rw [hb4] at H4
  obtain ⟨c0, hc0⟩ : ∃ b, (n == 0) = b := ⟨_, rfl⟩
  obtain ⟨ct, hct⟩ : ∃ b, (s.toList == []) = b := ⟨_, rfl⟩
  have HE := show isK ⟨kd, n, s⟩ = (b1 && b2 && (kd != 2 || c0) && b4 && (kd != 1 || ct)) by unfold isK; rw [hb1, hb2, show K.t ⟨kd, n, s⟩ = s.data.toList from rfl, hb4, ← hct, ByteArray.toList_eq, ← hc0]
  have HB := Lib.hid (fun o => below_alloc (Below.refl w.heap.size w) o (Nat.le_refl _))
  clear hb1 hb2 hb4
  rcases (show kd = 1 ∨ kd = 2 ∨ (kd ≠ 1 ∧ kd ≠ 2) by omega) with rfl | rfl | ⟨hk1, hk2⟩
  · rw [show isK ⟨1, n, s⟩ = (b1 && (b2 && (b4 && ct))) by rw [HE]; cases b1 <;> cases b2 <;> cases b4 <;> cases ct <;> rfl]
    clear HE hc0
    rcases (show b1 = false ∨ (b1 = true ∧ b2 = false) ∨ (b1 = true ∧ b2 = true ∧ b4 = false) ∨ (b1 = true ∧ b2 = true ∧ b4 = true) by cases b1 <;> cases b2 <;> cases b4 <;> simp) with rfl | ⟨rfl, rfl⟩ | ⟨rfl, rfl, rfl⟩ | ⟨rfl, rfl, rfl⟩
    all_goals
      go_enter Try.func64, Try.ntmps64
      go_wp2_with (first
        | (go_at_call 69; with_reducible refine (H1.out _).mono ?_; rintro e w1 ⟨rfl, rfl⟩)
        | (go_at_call 69; with_reducible refine (H2.out _).mono ?_; rintro e w1 ⟨rfl, rfl⟩)
        | (go_at_call 112; refine (H4.out _).mono ?_; rintro e w1 ⟨rfl, rfl⟩))
      go_ret
      exact ⟨rfl, HB.out _⟩
  · rw [show isK ⟨2, n, s⟩ = (b1 && (b2 && (c0 && b4))) by rw [HE]; cases b1 <;> cases b2 <;> cases b4 <;> cases c0 <;> rfl]
    clear HE hct
    rcases (show b1 = false ∨ (b1 = true ∧ b2 = false) ∨ (b1 = true ∧ b2 = true ∧ c0 = false) ∨ (b1 = true ∧ b2 = true ∧ c0 = true ∧ b4 = false) ∨ (b1 = true ∧ b2 = true ∧ c0 = true ∧ b4 = true) by cases b1 <;> cases b2 <;> cases c0 <;> cases b4 <;> simp) with rfl | ⟨rfl, rfl⟩ | ⟨rfl, rfl, rfl⟩ | ⟨rfl, rfl, rfl, rfl⟩ | ⟨rfl, rfl, rfl, rfl⟩
    all_goals
      go_enter Try.func64, Try.ntmps64
      go_wp2_with (first
        | (go_at_call 69; with_reducible refine (H1.out _).mono ?_; rintro e w1 ⟨rfl, rfl⟩)
        | (go_at_call 69; with_reducible refine (H2.out _).mono ?_; rintro e w1 ⟨rfl, rfl⟩)
        | (go_at_call 112; refine (H4.out _).mono ?_; rintro e w1 ⟨rfl, rfl⟩))
      go_ret
      exact ⟨rfl, HB.out _⟩
  · have hk1' : (kd == 1) = false := by simpa using hk1
    have hk2' : (kd == 2) = false := by simpa using hk2
    rw [show isK ⟨kd, n, s⟩ = (b1 && (b2 && b4)) by rw [HE]; unfold bne; rw [hk1', hk2']; cases b1 <;> cases b2 <;> cases b4 <;> rfl]
    clear HE hct hc0
    replace hk1 : ¬ kd = 1 := hk1
    replace hk2 : ¬ kd = 2 := hk2
    rcases (show b1 = false ∨ (b1 = true ∧ b2 = false) ∨ (b1 = true ∧ b2 = true ∧ b4 = false) ∨ (b1 = true ∧ b2 = true ∧ b4 = true) by cases b1 <;> cases b2 <;> cases b4 <;> simp) with rfl | ⟨rfl, rfl⟩ | ⟨rfl, rfl, rfl⟩ | ⟨rfl, rfl, rfl⟩
    all_goals
      go_enter Try.func64, Try.ntmps64
      go_wp2_with (first
        | (go_at_call 69; with_reducible refine (H1.out _).mono ?_; rintro e w1 ⟨rfl, rfl⟩)
        | (go_at_call 69; with_reducible refine (H2.out _).mono ?_; rintro e w1 ⟨rfl, rfl⟩)
        | (go_at_call 112; refine (H4.out _).mono ?_; rintro e w1 ⟨rfl, rfl⟩))
      go_ret
      exact ⟨rfl, HB.out _⟩
end Go.Proofs.Ytkfejjoehgipmaa.L4

/-
  The contracts of chapter 4's comparisons of the specification: l4Sign, CompareKeys, CompareBytes, InRangeOf. Conditions: texts of at most 2^48 bytes.
-/
namespace Go.Proofs.Ytkfejjoehgipmaa.L4
set_option maxRecDepth 100000
open Go.Op (bytesLess)
open Go.ChangeShapes Go.WideShapes Go.ChangeAt Go.RowKit Mem Sl Ex L2
set_option linter.unusedVariables false

theorem l4Sign_any (a b : Bool) (w : World) :
    Calls Try.prog 113 #[.bool a, .bool b] w fun e w' => e = .returned (.int .i64 (sgn a b)) ∧ w = w' := by
  cases a <;> cases b <;>
    (go_enter Try.func113, Try.ntmps113
     go_wp2
     go_ret
     exact ⟨rfl, rfl⟩)

def Box (w : World) (g : Nat) (t : TypeId) (k : K) : Prop := Row w g t k.cells
theorem Box.facts {w : World} {g : Nat} {t : TypeId} {kd n : Int} {s : ByteArray} (h : Box w g t ⟨kd, n, s⟩) : w.cell? ⟨g, 0, none⟩ = some (.int .i64 kd) ∧ w.cell? ⟨g, 1, none⟩ = some (.int .i64 n) ∧ w.cell? ⟨g, 2, none⟩ = some (.string s) := by
  have h' : Row w g t #[.int .i64 kd, .int .i64 n, .string s] := h
  have c0 := h'.cell 0
  have c1 := h'.cell 1
  have c2 := h'.cell 2
  simp at c0 c1 c2
  exact ⟨c0, c1, c2⟩
theorem Box.below {w w' : World} {g : Nat} {t : TypeId} {k : K} (h : Box w g t k) (hb : Below w.heap.size w w') : Box w' g t k := Row.below h hb (Row.inside h)
theorem Box.made (w : World) (t : TypeId) (k : K) : Box (w.alloc (.cells k.cells t)) w.heap.size t k := Row.made w t k.cells
theorem Box.more {w : World} {g : Nat} {t : TypeId} {k : K} (h : Box w g t k) (o : Obj) : Box (w.alloc o) g t k := Row.more h o

theorem string_gtr (t : TypeId) (a b : ByteArray) : binOp .gtr t (.string a) (.string b) = pure (.bool (!(bytesLess a.toList b.toList) && !(a.toList == b.toList))) := by simp [binOp, Op.stringOp]
theorem cmpK_bad1 {a b : K} (h : isK a = false) : cmpK a b = 0 := by simp [cmpK, h]
theorem cmpK_bad2 {a b : K} (h : isK b = false) : cmpK a b = 0 := by simp [cmpK, h]
theorem cmpK_kind {a b : K} (ha : isK a = true) (hb : isK b = true) (h : ¬ a.kind = b.kind) : cmpK a b = sgn (decide (a.kind < b.kind)) true := by simp [cmpK, ha, hb, h]
theorem cmpK_n {a b : K} (ha : isK a = true) (hb : isK b = true) (h : a.kind = b.kind) (h2 : ¬ a.n = b.n) : cmpK a b = sgn (decide (a.n < b.n)) true := by simp [cmpK, ha, hb, h, h2]
theorem cmpK_t {a b : K} (ha : isK a = true) (hb : isK b = true) (h : a.kind = b.kind) (h2 : a.n = b.n) : cmpK a b = sgn (bytesLess a.text.toList b.text.toList) (!(bytesLess a.text.toList b.text.toList) && !(a.text.toList == b.text.toList)) := by
  rw [ByteArray.toList_eq, ByteArray.toList_eq]
  simp [cmpK, ha, hb, h, h2, cmpL, K.t]
set_option maxHeartbeats 2000000 in
theorem specCompareKeys_any (a b : K) (ha : a.text.size ≤ 281474976710656) (hb : b.text.size ≤ 281474976710656) (w : World) :
    Calls Try.prog 68 #[a.v, b.v] w fun e w' => e = .returned (.int .i64 (cmpK a b)) ∧ Below w.heap.size w w' := by
  obtain ⟨w2, hw2⟩ : ∃ w2, w2 = (w.alloc (.cells a.cells 28)).alloc (.cells b.cells 28) := ⟨_, rfl⟩
  have ba : Box w2 w.heap.size 28 a := by rw [hw2]; exact (Box.made w _ a).more _
  have bb : Box w2 (w.heap.size + 1) 28 b := by
    rw [hw2, show w.heap.size + 1 = (w.alloc (.cells a.cells 28)).heap.size by simp]
    exact Box.made _ _ b
  have hbl : Below w.heap.size w w2 := by rw [hw2]; exact below_alloc (below_alloc (Below.refl _ _) _ (Nat.le_refl _)) _ (Nat.le_refl _)
  obtain ⟨ka, na, sa⟩ := a
  obtain ⟨kb, nb, sb⟩ := b
  have H1 := Lib.hid (fun w => specIsKey_any ⟨ka, na, sa⟩ ha w)
  have H2 := Lib.hid (fun w => specIsKey_any ⟨kb, nb, sb⟩ hb w)
  obtain ⟨ia, hia⟩ : ∃ x, isK ⟨ka, na, sa⟩ = x := ⟨_, rfl⟩
  obtain ⟨ib, hib⟩ : ∃ x, isK ⟨kb, nb, sb⟩ = x := ⟨_, rfl⟩
  rw [hia] at H1
  rw [hib] at H2
  have HS := Lib.hid l4Sign_any
  unfold K.v at H1 H2 ⊢
  unfold K.cells at hw2
  obtain ⟨a0, a1, a2⟩ := ba.facts
  obtain ⟨b0, b1, b2⟩ := bb.facts
  have BA := Lib.hid (And.intro ba (And.intro bb hbl))
  go_enter Try.func68, Try.ntmps68
  go_wp2_with fail
  go_at_call 64
  rw [← hw2]
  clear hw2 a0 a1 a2 b0 b1 b2 ba bb hbl
  refine (H1.out w2).mono ?_
  rintro e w3 ⟨rfl, h3⟩
  have BA3 := Lib.hid (And.intro (BA.out.1.below h3) (And.intro (BA.out.2.1.below h3) (BA.out.2.2.trans (h3.mono BA.out.2.2.size))))
  clear h3
  cases ia with
  | false =>
    go_wp2_with fail
    go_ret
    exact ⟨by rw [cmpK_bad1 hia]; rfl, BA3.out.2.2⟩
  | true =>
    obtain ⟨b0, b1, b2⟩ := BA3.out.2.1.facts
    go_wp2_with fail
    go_at_call 64
    refine (H2.out w3).mono ?_
    rintro e w4 ⟨rfl, h4⟩
    have BA4 := Lib.hid (And.intro (BA3.out.1.below h4) (And.intro (BA3.out.2.1.below h4) (BA3.out.2.2.trans (h4.mono BA3.out.2.2.size))))
    clear h4 b0 b1 b2
    cases ib with
    | false =>
      go_wp2_with fail
      go_ret
      exact ⟨by rw [cmpK_bad2 hib]; rfl, BA4.out.2.2⟩
    | true =>
      obtain ⟨a0, a1, a2⟩ := BA4.out.1.facts
      obtain ⟨b0, b1, b2⟩ := BA4.out.2.1.facts
      by_cases hk : ka = kb
      · by_cases hn : na = nb
        · have HE := Lib.hid (cmpK_t hia hib hk hn)
          subst hk
          subst hn
          have hgt := string_gtr
          go_wp2_with fail
          go_at_call 113
          refine (HS.out _ _ _).mono ?_
          rintro e w5 ⟨rfl, rfl⟩
          go_wp2_with fail
          go_ret
          exact ⟨by rw [HE.out]; rfl, BA4.out.2.2⟩
        · have HE := Lib.hid (cmpK_n hia hib hk hn)
          subst hk
          go_wp2_with fail
          go_at_call 113
          refine (HS.out _ _ _).mono ?_
          rintro e w5 ⟨rfl, rfl⟩
          go_wp2_with fail
          go_ret
          exact ⟨by rw [HE.out]; rfl, BA4.out.2.2⟩
      · have HE := Lib.hid (cmpK_kind hia hib hk)
        go_wp2_with fail
        go_at_call 113
        refine (HS.out _ _ _).mono ?_
        rintro e w5 ⟨rfl, rfl⟩
        go_wp2_with fail
        go_ret
        exact ⟨by rw [HE.out]; rfl, BA4.out.2.2⟩

def toU (l : List Int) : List UInt8 := l.map fun n => UInt8.ofNat n.toNat
/-! ### ranges -/
structure R where
  hl : Bool
  hh : Bool
  lo : K
  hi : K
def R.v (r : R) : Value := .agg #[.bool r.hl, .bool r.hh, .int .i64 r.lo.kind, .int .i64 r.lo.n, .string r.lo.text, .int .i64 r.hi.kind, .int .i64 r.hi.n, .string r.hi.text]
def R.cells (r : R) : Array Value := #[.bool r.hl, .bool r.hh, .int .i64 r.lo.kind, .int .i64 r.lo.n, .string r.lo.text, .int .i64 r.hi.kind, .int .i64 r.hi.n, .string r.hi.text]
def inR (k : K) (r : R) : Bool := isK k && ((!r.hl || isK r.lo) && ((!r.hh || isK r.hi) && ((!r.hl || decide (cmpK r.lo k ≤ 0)) && (!r.hh || decide (cmpK k r.hi ≤ 0)))))
structure St (w wr : World) (kt rt : TypeId) (k : K) (r : R) : Prop where
  k : Row wr w.heap.size kt k.cells
  r : Row wr (w.heap.size + 1) rt r.cells
  b : Below w.heap.size w wr
theorem St.next {w wr w' : World} {kt rt : TypeId} {k : K} {r : R} (h : Hid (St w wr kt rt k r)) (hb : Below wr.heap.size wr w') : Hid (St w w' kt rt k r) :=
  ⟨h.out.k.below hb h.out.k.inside, h.out.r.below hb h.out.r.inside, h.out.b.trans (hb.mono h.out.b.size)⟩
theorem St.facts {w wr : World} {kt rt : TypeId} {kd n : Int} {s : ByteArray} {hl hh : Bool} {ka na : Int} {sa : ByteArray} {kb nb : Int} {sb : ByteArray} (h : Hid (St w wr kt rt ⟨kd, n, s⟩ ⟨hl, hh, ⟨ka, na, sa⟩, ⟨kb, nb, sb⟩⟩)) :
    (wr.cell? ⟨w.heap.size, 0, none⟩ = some (.int .i64 kd) ∧ wr.cell? ⟨w.heap.size, 1, none⟩ = some (.int .i64 n) ∧ wr.cell? ⟨w.heap.size, 2, none⟩ = some (.string s)) ∧
    wr.cell? ⟨w.heap.size + 1, 0, none⟩ = some (.bool hl) ∧ wr.cell? ⟨w.heap.size + 1, 1, none⟩ = some (.bool hh) ∧ wr.cell? ⟨w.heap.size + 1, 2, none⟩ = some (.int .i64 ka) ∧ wr.cell? ⟨w.heap.size + 1, 3, none⟩ = some (.int .i64 na) ∧ wr.cell? ⟨w.heap.size + 1, 4, none⟩ = some (.string sa) ∧ wr.cell? ⟨w.heap.size + 1, 5, none⟩ = some (.int .i64 kb) ∧ wr.cell? ⟨w.heap.size + 1, 6, none⟩ = some (.int .i64 nb) ∧ wr.cell? ⟨w.heap.size + 1, 7, none⟩ = some (.string sb) := by
  have h1 : Row wr w.heap.size kt #[.int .i64 kd, .int .i64 n, .string s] := h.out.k
  have h2 : Row wr (w.heap.size + 1) rt #[.bool hl, .bool hh, .int .i64 ka, .int .i64 na, .string sa, .int .i64 kb, .int .i64 nb, .string sb] := h.out.r
  refine ⟨⟨?_, ?_, ?_⟩, ?_, ?_, ?_, ?_, ?_, ?_, ?_, ?_⟩
  all_goals first | (rw [h1.cell]; rfl) | (rw [h2.cell]; rfl)

set_option maxHeartbeats 2000000 in
theorem specInRangeOf_any (k : K) (r : R) (h0 : k.text.size ≤ 281474976710656) (h1 : r.lo.text.size ≤ 281474976710656) (h2 : r.hi.text.size ≤ 281474976710656) (w : World) :
    Calls Try.prog 29 #[k.v, r.v] w fun e w' => e = .returned (.bool (inR k r)) ∧ Below w.heap.size w w' := by
  obtain ⟨w2, hw2⟩ : ∃ w2, w2 = (w.alloc (.cells k.cells 28)).alloc (.cells r.cells 45) := ⟨_, rfl⟩
  have st0 : Hid (St w w2 28 45 k r) := by
    rw [hw2]
    refine ⟨(Row.made w _ _).more _, ?_, below_alloc (below_alloc (Below.refl _ _) _ (Nat.le_refl _)) _ (Nat.le_refl _)⟩
    rw [show w.heap.size + 1 = (w.alloc (.cells k.cells 28)).heap.size by simp]
    exact Row.made _ _ _
  have HK := Lib.hid (fun w => specIsKey_any k h0 w)
  have HL := Lib.hid (fun w => specIsKey_any r.lo h1 w)
  have HH := Lib.hid (fun w => specIsKey_any r.hi h2 w)
  have HCL := Lib.hid (fun w => specCompareKeys_any r.lo k h1 h0 w)
  have HCH := Lib.hid (fun w => specCompareKeys_any k r.hi h0 h2 w)
  obtain ⟨ik, hik⟩ : ∃ x, isK k = x := ⟨_, rfl⟩
  obtain ⟨il, hil⟩ : ∃ x, isK r.lo = x := ⟨_, rfl⟩
  obtain ⟨ih, hih⟩ : ∃ x, isK r.hi = x := ⟨_, rfl⟩
  obtain ⟨cl, hcl⟩ : ∃ x, cmpK r.lo k = x := ⟨_, rfl⟩
  obtain ⟨ch, hch⟩ : ∃ x, cmpK k r.hi = x := ⟨_, rfl⟩
  have HE := show inR k r = (ik && ((!r.hl || il) && ((!r.hh || ih) && ((!r.hl || decide (cl ≤ 0)) && (!r.hh || decide (ch ≤ 0)))))) by unfold inR; rw [hik, hil, hih, hcl, hch]
  rw [HE]
  rw [hik] at HK
  rw [hil] at HL
  rw [hih] at HH
  rw [hcl] at HCL
  rw [hch] at HCH
  clear HE hik hil hih hcl hch
  obtain ⟨kd, n, s⟩ := k
  obtain ⟨hl, hh, ⟨ka, na, sa⟩, ⟨kb, nb, sb⟩⟩ := r
  obtain ⟨dl, hdl⟩ : ∃ b, decide (cl ≤ 0) = b := ⟨_, rfl⟩
  obtain ⟨dh, hdh⟩ : ∃ b, decide (ch ≤ 0) = b := ⟨_, rfl⟩
  rw [hdl, hdh]
  simp only [K.v, R.v, K.cells, R.cells] at HK HL HH HCL HCH hw2 ⊢
  clear h0 h1 h2
  rcases (show ik = false ∨ (ik = true ∧ hl = true ∧ il = false) ∨ (ik = true ∧ hl = true ∧ il = true ∧ hh = true ∧ ih = false) ∨ (ik = true ∧ hl = false ∧ hh = true ∧ ih = false) ∨ (ik = true ∧ hl = true ∧ il = true ∧ hh = true ∧ ih = true ∧ dl = false) ∨ (ik = true ∧ hl = true ∧ il = true ∧ hh = true ∧ ih = true ∧ dl = true) ∨ (ik = true ∧ hl = true ∧ il = true ∧ hh = false ∧ dl = false) ∨ (ik = true ∧ hl = true ∧ il = true ∧ hh = false ∧ dl = true) ∨ (ik = true ∧ hl = false ∧ hh = true ∧ ih = true) ∨ (ik = true ∧ hl = false ∧ hh = false) by
    cases ik <;> cases hl <;> cases il <;> cases hh <;> cases ih <;> cases dl <;> simp) with rfl | ⟨rfl, rfl, rfl⟩ | ⟨rfl, rfl, rfl, rfl, rfl⟩ | ⟨rfl, rfl, rfl, rfl⟩ | ⟨rfl, rfl, rfl, rfl, rfl, rfl⟩ | ⟨rfl, rfl, rfl, rfl, rfl, rfl⟩ | ⟨rfl, rfl, rfl, rfl, rfl⟩ | ⟨rfl, rfl, rfl, rfl, rfl⟩ | ⟨rfl, rfl, rfl, rfl⟩ | ⟨rfl, rfl, rfl⟩
  all_goals
    go_enter Try.func29, Try.ntmps29
    go_wp2_with fail
    go_at_call 64
    rw [← hw2]
    clear hw2
    with_reducible refine (HK.out w2).mono ?_
    rintro e w3 ⟨rfl, hb⟩
    have st := St.next st0 hb
    clear hb
    obtain ⟨⟨x0, x1, x2⟩, y0, y1, y2, y3, y4, y5, y6, y7⟩ := St.facts st
    go_wp2_with (first
      | (go_at_call 64; with_reducible refine (HL.out _).mono ?_; rintro e wn ⟨rfl, hb⟩; have st := St.next (by assumption) hb; clear hb; obtain ⟨⟨x0, x1, x2⟩, y0, y1, y2, y3, y4, y5, y6, y7⟩ := St.facts st)
      | (go_at_call 64; with_reducible refine (HH.out _).mono ?_; rintro e wn ⟨rfl, hb⟩; have st := St.next (by assumption) hb; clear hb; obtain ⟨⟨x0, x1, x2⟩, y0, y1, y2, y3, y4, y5, y6, y7⟩ := St.facts st)
      | (go_at_call 68; with_reducible refine (HCL.out _).mono ?_; rintro e wn ⟨rfl, hb⟩; have st := St.next (by assumption) hb; clear hb; obtain ⟨⟨x0, x1, x2⟩, y0, y1, y2, y3, y4, y5, y6, y7⟩ := St.facts st)
      | (go_at_call 68; with_reducible refine (HCH.out _).mono ?_; rintro e wn ⟨rfl, hb⟩; have st := St.next (by assumption) hb; clear hb; obtain ⟨⟨x0, x1, x2⟩, y0, y1, y2, y3, y4, y5, y6, y7⟩ := St.facts st))
    go_ret
    exact ⟨rfl, st.out.b⟩
end Go.Proofs.Ytkfejjoehgipmaa.L4

/-
  The contracts of chapter 4's EncodeKey and DecodeKey of the specification. Conditions: a text, a byte string of at most 2^40 bytes.
-/
namespace Go.Proofs.Ytkfejjoehgipmaa.L4
set_option maxRecDepth 100000
open Go.Op (bytesLess)
open Go.ChangeShapes Go.WideShapes Go.ChangeAt Go.RowKit Mem Sl Ex L2
set_option linter.unusedVariables false

def toI (u : List UInt8) : List Int := u.map fun b => (b.toNat : Int)
@[simp] theorem toI_length (u : List UInt8) : (toI u).length = u.length := by simp [toI]
theorem toI_append (u v : List UInt8) : toI (u ++ v) = toI u ++ toI v := by simp [toI]
theorem toI_toU (l : List Int) (h : Byt l) : toI (toU l) = l := by
  unfold toI toU
  rw [List.map_map]
  have : ∀ x ∈ l, ((fun b : UInt8 => (b.toNat : Int)) ∘ fun n : Int => UInt8.ofNat n.toNat) x = x := fun x hx => by
    have := h x hx
    simp only [Function.comp, UInt8.toNat_ofNat']
    omega
  rw [List.map_congr_left this, List.map_id']
theorem toU_toI (u : List UInt8) : toU (toI u) = u := by
  unfold toI toU
  rw [List.map_map]
  have : ∀ x ∈ u, ((fun n : Int => UInt8.ofNat n.toNat) ∘ fun b : UInt8 => (b.toNat : Int)) x = x := fun x _ => by simp
  rw [List.map_congr_left this, List.map_id']
theorem and_255 (m : Nat) (h : m < 4611686018427387904) : bits .and .i64 (m : Int) 255 = ((m % 256 : Nat) : Int) := by
  have h1 : (BitVec.ofInt 64 (m : Int) &&& BitVec.ofInt 64 (255 : Int)).toNat = m % 256 := by
    rw [show (255 : Int) = ((255 : Nat) : Int) from rfl, BitVec.ofInt_natCast, BitVec.ofInt_natCast, BitVec.toNat_and, BitVec.toNat_ofNat, BitVec.toNat_ofNat, Nat.mod_eq_of_lt (show m < 2 ^ 64 by omega), show 255 % 2 ^ 64 = 2 ^ 8 - 1 by decide, Nat.and_two_pow_sub_one_eq_mod]
  show IntKind.i64.wrap ((BitVec.ofInt 64 (m : Int) &&& BitVec.ofInt 64 (255 : Int)).toNat : Nat) = _
  rw [h1, IntKind.wrap_i64]
  omega
theorem byte_step (m d : Nat) (h : (m : Int) ≤ 2000000000000) : bits .and .i64 ((m : Int) / (d : Int)) 255 % 256 = ((m / d % 256 : Nat) : Int) := by
  have h1 := Nat.div_le_self m d
  rw [show (m : Int) / (d : Int) = ((m / d : Nat) : Int) from rfl, and_255 _ (by omega)]
  omega
theorem be_get (k m i : Nat) (h : i < k) : (be k m)[i]'(by simpa using h) = UInt8.ofNat (m / 256 ^ (k - 1 - i) % 256) := by
  induction k generalizing i with
  | zero => omega
  | succ k ih =>
    cases i with
    | zero => simp [be]
    | succ i =>
      have := ih i (by omega)
      simp only [be, List.getElem_cons_succ, this]
      congr 4
      omega
theorem six_step (m j : Nat) (h : 1 ≤ j) (h6 : j ≤ 6) : toI ((be 6 m).take (6 - (j - 1))) = toI ((be 6 m).take (6 - j)) ++ [((m / 256 ^ (j - 1) % 256 : Nat) : Int)] := by
  rw [show 6 - (j - 1) = (6 - j) + 1 by omega, List.take_succ_eq_append_getElem (by simp; omega), toI_append, be_get 6 m (6 - j) (by omega)]
  congr 1
  simp only [toI, List.map_cons, List.map_nil, UInt8.toNat_ofNat']
  rw [show 6 - 1 - (6 - j) = j - 1 by omega]
  congr 2
  omega

set_option maxHeartbeats 2000000 in
theorem specEncodeKey_any (k : K) (hs : k.text.size ≤ 1099511627776) (w : World) :
    Calls Try.prog 30 #[k.v] w (Gave w w.heap.size 5 .u8 (toI (encU k))) := by
  obtain ⟨i0, hi, hz0, hz1, hz2⟩ := infoOf _ _ _ _ info8
  obtain ⟨w2, hw2⟩ : ∃ w2, w2 = w.alloc (.cells k.cells 28) := ⟨_, rfl⟩
  have ba : Box w2 w.heap.size 28 k := by rw [hw2]; exact Box.made w _ k
  have hbl : Below w.heap.size w w2 := by rw [hw2]; exact below_alloc (Below.refl _ _) _ (Nat.le_refl _)
  have H1 := Lib.hid (fun w => specIsKey_any k (by omega) w)
  obtain ⟨ia, hia⟩ : ∃ x, isK k = x := ⟨_, rfl⟩
  rw [hia] at H1
  obtain ⟨kd, n, s⟩ := k
  simp only [K.v, K.cells] at H1 hw2 ⊢
  go_enter Try.func30, Try.ntmps30
  go_wp2_with fail
  go_at_call 64
  rw [← hw2]
  refine (H1.out w2).mono ?_
  rintro e w3 ⟨rfl, h3⟩
  have BA := Lib.hid (And.intro (ba.below h3) (hbl.trans (h3.mono hbl.size)))
  have hsz : w.heap.size + 1 ≤ w3.heap.size := by have := h3.size; rw [hw2] at this; simpa using this
  clear hw2 ba hbl h3 H1
  cases ia with
  | false =>
    have HE := Lib.hid (show toI (encU ⟨kd, n, s⟩) = [] by unfold encU; rw [hia]; rfl)
    go_wp2_with fail
    go_ret
    rw [HE.out]
    exact Gave.mk rfl (Own.empty w3 5 .u8 BA.out.2.size) (below_alloc BA.out.2 _ (Nat.le_refl _))
  | true =>
    have g := isK_iff.1 hia
    have k0 : 1 ≤ kd := g.k0
    have k1 : kd ≤ 3 := g.k1
    have n0 : -1000000000000 ≤ n := g.n0
    have n1 : n ≤ 1000000000000 := g.n1
    obtain ⟨b0, b1, b2⟩ := BA.out.1.facts
    have H3 := Lib.hid (And.intro (L3.own_lit w3 5 .u8 [kd] hsz (by simp [maxLen])) (below_alloc (Below.refl (w.heap.size + 1) w3) (.cells #[.int .u8 kd] 5) hsz))
    have m0 : 0 ≤ n + 1000000000000 := by omega
    obtain ⟨m, hm⟩ : ∃ m : Nat, (m : Int) = n + 1000000000000 := ⟨(n + 1000000000000).toNat, by omega⟩
    have hm2 : (m : Int) ≤ 2000000000000 := by omega
    by_cases hk : kd = 2
    · subst hk
      have HE := Lib.hid (show toI (encU ⟨2, n, s⟩) = [2] ++ L3.strB s by rw [encU_good hia]; rfl)
      obtain ⟨w4, hw4⟩ : ∃ x, x = w3.alloc (.cells #[.int .u8 2] 5) := ⟨_, rfl⟩
      have ho4 : Own w4 (w.heap.size + 1) 5 .u8 (some ⟨w3.heap.size, 0, none⟩) 1 [2] := by rw [hw4]; exact H3.out.1
      have hb4 : Below (w.heap.size + 1) w3 w4 := by rw [hw4]; exact H3.out.2
      have bx4 : Box w4 w.heap.size 28 ⟨2, n, s⟩ := by rw [hw4]; exact BA.out.1.more _
      have hbw := BA.out.2.trans (hb4.mono (Nat.le_succ _))
      have hsz2 : w.heap.size + 1 ≤ w4.heap.size := Nat.le_trans hsz hb4.size
      go_wp2_with fail
      rw [← hw4]
      clear hw4 b0 b1 b2 H3 hb4
      obtain ⟨b0, b1, b2⟩ := bx4.facts
      refine wp_loop_rounds 1 ?_
      rw [rounds_succ]
      have HT := Lib.hid (Lib.run_convert_string_bytes (P := Try.prog) w4 9 22 5 s Try.underlying9 Try.underlying22 Try.underlying5)
      have HT1 := Lib.hid (And.intro (L3.strB_reads w4 5 s) (L3.strB_below w4 5 s))
      obtain ⟨wb, hwb⟩ : ∃ x, x = Lib.bytesWorld w4 5 s := ⟨_, rfl⟩
      obtain ⟨cp, hcp⟩ : ∃ x, x = grownCap w4 s.size 0 5 := ⟨_, rfl⟩
      rw [← hwb, ← hcp] at HT
      rw [← hwb] at HT1
      clear hwb hcp
      have hcv := HT.out
      go_wp2_with (at_builtin; refine wpList_append_src _ rfl _ _ 22 rfl (w.heap.size + 1) 5 i0 (.int .u8 0) 1 Try.underlying22 hi hz0 hz1 hz2 rfl .u8 _ _ _ ([2]) rfl rfl (ho4.below (HT1.out.2)) _ _ _ _ (L3.strB s) rfl (L3.strB_length s).symm HT1.out.1 (by rw [L3.strB_length]; unfold maxLen; simp; omega) (by rw [L3.strB_length]; simp; omega) (Nat.le_trans hsz2 HT1.out.2.size) ?_; intro a9 c9 w9 ho9 hg9)
      go_ret
      have q1 := HT1.out.2
      rw [HE.out]
      refine Gave.mk (by simp [L3.strB_length]; omega) (ho9.base (Nat.le_succ _)) ?_
      have q2 := hbw.trans (q1.mono hbw.size)
      exact q2.trans ((below_own (ho4.below q1) hg9 (Nat.le_trans hsz2 q1.size)).mono (Nat.le_succ _))
    · have HE := Lib.hid (show toI (encU ⟨kd, n, s⟩) = (kd :: toI (be 6 m)) ++ L3.strB s by
        rw [encU_good hia]
        have e1 : num6 ⟨kd, n, s⟩ = be 6 m := by unfold num6; rw [if_neg hk, ← hm]; rfl
        rw [e1]
        simp only [toI, List.map_cons, List.map_append, UInt8.toNat_ofNat', List.cons_append]
        congr 1
        show (((kd.toNat % 2 ^ 8 : Nat)) : Int) = kd
        omega)
      have hk2 : ¬ kd = 2 := hk
      go_wp2_with fail
      clear b0 b1 b2
      go_loopw [3, 4] (fun s i wr => ∃ (j : Nat) (v : Int) (a1 : Option Addr) (c1 : Nat), j ≤ 6 ∧ v = (j : Int) - 1 ∧ i = .int .i64 v ∧ s = .slice a1 (7 - j) c1 ∧ Hid (Own wr (w.heap.size + 1) 5 .u8 a1 c1 (kd :: toI ((be 6 m).take (6 - j))) ∧ Below (w.heap.size + 1) w3 wr)) (fun _ i _ => (intOf i + 1).toNat)
      case atStart => exact ⟨6, 5, _, _, Nat.le_refl _, by omega, rfl, rfl, H3.out⟩
      case round =>
        obtain ⟨j, v, a1, c1, hj, hv, rfl, rfl, hrel⟩ := hrel
        have bx := Box.facts (Row.below BA.out.1 hrel.out.2 (Nat.lt_succ_self _))
        obtain ⟨b0, b1, b2⟩ := bx
        have hm' : n + 1000000000000 = (m : Int) := hm.symm
        clear hm m0
        rcases (show j = 0 ∨ j = 1 ∨ j = 2 ∨ j = 3 ∨ j = 4 ∨ j = 5 ∨ j = 6 by omega) with rfl | rfl | rfl | rfl | rfl | rfl | rfl
        · obtain rfl : v = -1 := by omega
          clear hj hv hm'
          have HL := Lib.hid (show (kd :: toI (be 6 m)).length = 7 by simp)
          have ho4 : Own wr (w.heap.size + 1) 5 .u8 a1 c1 (kd :: toI (be 6 m)) := hrel.out.1
          have hbw := BA.out.2.trans (hrel.out.2.mono (Nat.le_succ _))
          have hsz2 : w.heap.size + 1 ≤ wr.heap.size := Nat.le_trans hsz hrel.out.2.size
          have HT := Lib.hid (Lib.run_convert_string_bytes (P := Try.prog) wr 9 22 5 s Try.underlying9 Try.underlying22 Try.underlying5)
          have HT1 := Lib.hid (And.intro (L3.strB_reads wr 5 s) (L3.strB_below wr 5 s))
          obtain ⟨wb, hwb⟩ : ∃ x, x = Lib.bytesWorld wr 5 s := ⟨_, rfl⟩
          obtain ⟨cp, hcp⟩ : ∃ x, x = grownCap wr s.size 0 5 := ⟨_, rfl⟩
          rw [← hwb, ← hcp] at HT
          rw [← hwb] at HT1
          clear hwb hcp
          have hcv := HT.out
          go_wp2_with (at_builtin; refine wpList_append_src _ rfl _ _ 22 rfl (w.heap.size + 1) 5 i0 (.int .u8 0) 1 Try.underlying22 hi hz0 hz1 hz2 rfl .u8 a1 _ c1 (kd :: toI (be 6 m)) rfl HL.out.symm (ho4.below HT1.out.2) _ _ _ _ (L3.strB s) rfl (L3.strB_length s).symm HT1.out.1 (by rw [L3.strB_length, HL.out]; unfold maxLen; omega) (by rw [L3.strB_length, HL.out]; omega) (Nat.le_trans hsz2 HT1.out.2.size) ?_; intro a9 c9 w9 ho9 hg9)
          go_ret
          have q1 := HT1.out.2
          rw [HE.out]
          refine Gave.mk (by rw [List.length_append, HL.out]) (ho9.base (Nat.le_succ _)) ?_
          have q2 := hbw.trans (q1.mono hbw.size)
          exact q2.trans ((below_own (ho4.below q1) hg9 (Nat.le_trans hsz2 q1.size)).mono (Nat.le_succ _))
        · obtain rfl : v = 0 := by omega
          clear hj hv
          have HX := Lib.hid (show bits .and .i64 (m : Int) 255 % 256 = ((m / 1 % 256 : Nat) : Int) from by have := byte_step m 1 hm2; simpa using this)
          go_wp2_with (at_builtin; refine wpList_append_src _ rfl _ _ 22 rfl (w.heap.size + 1) 5 i0 (.int .u8 0) 1 Try.underlying22 hi hz0 hz1 hz2 rfl .u8 a1 _ c1 (kd :: toI ((be 6 m).take 5)) rfl (by simp) (own_alloc hrel.out.1 _) _ _ 1 1 [_] rfl rfl (reads_one _ _ _ _) (by simp [maxLen]) (by simp) (Nat.le_trans hsz (Nat.le_trans hrel.out.2.size (by simp))) ?_; intro a2 c2 w2 ho2 hg2)
          have q1 := below_alloc hrel.out.2 (.cells #[.int .u8 (bits .and .i64 (m : Int) 255 % 256)] 5) hsz
          have q2 := q1.trans (below_own (own_alloc hrel.out.1 _) hg2 (Nat.le_trans hsz q1.size))
          have HS := Lib.hid (show toI ((be 6 m).take (6 - 0)) = toI ((be 6 m).take (6 - 1)) ++ [((m / 1 % 256 : Nat) : Int)] from six_step m 1 (by omega) (by omega))
          have HH := Lib.hid (And.intro ho2 q2)
          clear ho2 hg2 q1 q2
          go_roundw
          case rel =>
            refine ⟨0, -1, a2, c2, by omega, by omega, by go_num, by simp, And.intro ?_ HH.out.2⟩
            have h1 := HH.out.1
            rw [HX.out] at h1
            have h2 := HS.out
            rw [h2]
            exact h1
          case measure => simp [intOf]
        · obtain rfl : v = 1 := by omega
          clear hj hv
          have HX := Lib.hid (show bits .and .i64 ((m : Int) / 256) 255 % 256 = ((m / 256 % 256 : Nat) : Int) from byte_step m 256 hm2)
          go_wp2_with (at_builtin; refine wpList_append_src _ rfl _ _ 22 rfl (w.heap.size + 1) 5 i0 (.int .u8 0) 1 Try.underlying22 hi hz0 hz1 hz2 rfl .u8 a1 _ c1 (kd :: toI ((be 6 m).take 4)) rfl (by simp) (own_alloc hrel.out.1 _) _ _ 1 1 [_] rfl rfl (reads_one _ _ _ _) (by simp [maxLen]) (by simp) (Nat.le_trans hsz (Nat.le_trans hrel.out.2.size (by simp))) ?_; intro a2 c2 w2 ho2 hg2)
          have q1 := below_alloc hrel.out.2 (.cells #[.int .u8 (bits .and .i64 ((m : Int) / 256) 255 % 256)] 5) hsz
          have q2 := q1.trans (below_own (own_alloc hrel.out.1 _) hg2 (Nat.le_trans hsz q1.size))
          have HS := Lib.hid (show toI ((be 6 m).take (6 - 1)) = toI ((be 6 m).take (6 - 2)) ++ [((m / 256 % 256 : Nat) : Int)] from six_step m 2 (by omega) (by omega))
          have HH := Lib.hid (And.intro ho2 q2)
          clear ho2 hg2 q1 q2
          go_roundw
          case rel =>
            refine ⟨1, 0, a2, c2, by omega, by omega, by go_num, by simp, And.intro ?_ HH.out.2⟩
            have h1 := HH.out.1
            rw [HX.out] at h1
            have h2 := HS.out
            rw [h2]
            exact h1
          case measure => simp [intOf]
        · obtain rfl : v = 2 := by omega
          clear hj hv
          have HX := Lib.hid (show bits .and .i64 ((m : Int) / 65536) 255 % 256 = ((m / 65536 % 256 : Nat) : Int) from byte_step m 65536 hm2)
          go_wp2_with (at_builtin; refine wpList_append_src _ rfl _ _ 22 rfl (w.heap.size + 1) 5 i0 (.int .u8 0) 1 Try.underlying22 hi hz0 hz1 hz2 rfl .u8 a1 _ c1 (kd :: toI ((be 6 m).take 3)) rfl (by simp) (own_alloc hrel.out.1 _) _ _ 1 1 [_] rfl rfl (reads_one _ _ _ _) (by simp [maxLen]) (by simp) (Nat.le_trans hsz (Nat.le_trans hrel.out.2.size (by simp))) ?_; intro a2 c2 w2 ho2 hg2)
          have q1 := below_alloc hrel.out.2 (.cells #[.int .u8 (bits .and .i64 ((m : Int) / 65536) 255 % 256)] 5) hsz
          have q2 := q1.trans (below_own (own_alloc hrel.out.1 _) hg2 (Nat.le_trans hsz q1.size))
          have HS := Lib.hid (show toI ((be 6 m).take (6 - 2)) = toI ((be 6 m).take (6 - 3)) ++ [((m / 65536 % 256 : Nat) : Int)] from six_step m 3 (by omega) (by omega))
          have HH := Lib.hid (And.intro ho2 q2)
          clear ho2 hg2 q1 q2
          go_roundw
          case rel =>
            refine ⟨2, 1, a2, c2, by omega, by omega, by go_num, by simp, And.intro ?_ HH.out.2⟩
            have h1 := HH.out.1
            rw [HX.out] at h1
            have h2 := HS.out
            rw [h2]
            exact h1
          case measure => simp [intOf]
        · obtain rfl : v = 3 := by omega
          clear hj hv
          have HX := Lib.hid (show bits .and .i64 ((m : Int) / 16777216) 255 % 256 = ((m / 16777216 % 256 : Nat) : Int) from byte_step m 16777216 hm2)
          go_wp2_with (at_builtin; refine wpList_append_src _ rfl _ _ 22 rfl (w.heap.size + 1) 5 i0 (.int .u8 0) 1 Try.underlying22 hi hz0 hz1 hz2 rfl .u8 a1 _ c1 (kd :: toI ((be 6 m).take 2)) rfl (by simp) (own_alloc hrel.out.1 _) _ _ 1 1 [_] rfl rfl (reads_one _ _ _ _) (by simp [maxLen]) (by simp) (Nat.le_trans hsz (Nat.le_trans hrel.out.2.size (by simp))) ?_; intro a2 c2 w2 ho2 hg2)
          have q1 := below_alloc hrel.out.2 (.cells #[.int .u8 (bits .and .i64 ((m : Int) / 16777216) 255 % 256)] 5) hsz
          have q2 := q1.trans (below_own (own_alloc hrel.out.1 _) hg2 (Nat.le_trans hsz q1.size))
          have HS := Lib.hid (show toI ((be 6 m).take (6 - 3)) = toI ((be 6 m).take (6 - 4)) ++ [((m / 16777216 % 256 : Nat) : Int)] from six_step m 4 (by omega) (by omega))
          have HH := Lib.hid (And.intro ho2 q2)
          clear ho2 hg2 q1 q2
          go_roundw
          case rel =>
            refine ⟨3, 2, a2, c2, by omega, by omega, by go_num, by simp, And.intro ?_ HH.out.2⟩
            have h1 := HH.out.1
            rw [HX.out] at h1
            have h2 := HS.out
            rw [h2]
            exact h1
          case measure => simp [intOf]
        · obtain rfl : v = 4 := by omega
          clear hj hv
          have HX := Lib.hid (show bits .and .i64 ((m : Int) / 4294967296) 255 % 256 = ((m / 4294967296 % 256 : Nat) : Int) from byte_step m 4294967296 hm2)
          go_wp2_with (at_builtin; refine wpList_append_src _ rfl _ _ 22 rfl (w.heap.size + 1) 5 i0 (.int .u8 0) 1 Try.underlying22 hi hz0 hz1 hz2 rfl .u8 a1 _ c1 (kd :: toI ((be 6 m).take 1)) rfl (by simp) (own_alloc hrel.out.1 _) _ _ 1 1 [_] rfl rfl (reads_one _ _ _ _) (by simp [maxLen]) (by simp) (Nat.le_trans hsz (Nat.le_trans hrel.out.2.size (by simp))) ?_; intro a2 c2 w2 ho2 hg2)
          have q1 := below_alloc hrel.out.2 (.cells #[.int .u8 (bits .and .i64 ((m : Int) / 4294967296) 255 % 256)] 5) hsz
          have q2 := q1.trans (below_own (own_alloc hrel.out.1 _) hg2 (Nat.le_trans hsz q1.size))
          have HS := Lib.hid (show toI ((be 6 m).take (6 - 4)) = toI ((be 6 m).take (6 - 5)) ++ [((m / 4294967296 % 256 : Nat) : Int)] from six_step m 5 (by omega) (by omega))
          have HH := Lib.hid (And.intro ho2 q2)
          clear ho2 hg2 q1 q2
          go_roundw
          case rel =>
            refine ⟨4, 3, a2, c2, by omega, by omega, by go_num, by simp, And.intro ?_ HH.out.2⟩
            have h1 := HH.out.1
            rw [HX.out] at h1
            have h2 := HS.out
            rw [h2]
            exact h1
          case measure => simp [intOf]
        · obtain rfl : v = 5 := by omega
          clear hj hv
          have HX := Lib.hid (show bits .and .i64 ((m : Int) / 1099511627776) 255 % 256 = ((m / 1099511627776 % 256 : Nat) : Int) from byte_step m 1099511627776 hm2)
          go_wp2_with (at_builtin; refine wpList_append_src _ rfl _ _ 22 rfl (w.heap.size + 1) 5 i0 (.int .u8 0) 1 Try.underlying22 hi hz0 hz1 hz2 rfl .u8 a1 _ c1 (kd :: toI ((be 6 m).take 0)) rfl (by simp) (own_alloc hrel.out.1 _) _ _ 1 1 [_] rfl rfl (reads_one _ _ _ _) (by simp [maxLen]) (by simp) (Nat.le_trans hsz (Nat.le_trans hrel.out.2.size (by simp))) ?_; intro a2 c2 w2 ho2 hg2)
          have q1 := below_alloc hrel.out.2 (.cells #[.int .u8 (bits .and .i64 ((m : Int) / 1099511627776) 255 % 256)] 5) hsz
          have q2 := q1.trans (below_own (own_alloc hrel.out.1 _) hg2 (Nat.le_trans hsz q1.size))
          have HS := Lib.hid (show toI ((be 6 m).take (6 - 5)) = toI ((be 6 m).take (6 - 6)) ++ [((m / 1099511627776 % 256 : Nat) : Int)] from six_step m 6 (by omega) (by omega))
          have HH := Lib.hid (And.intro ho2 q2)
          clear ho2 hg2 q1 q2
          go_roundw
          case rel =>
            refine ⟨5, 4, a2, c2, by omega, by omega, by go_num, by simp, And.intro ?_ HH.out.2⟩
            have h1 := HH.out.1
            rw [HX.out] at h1
            have h2 := HS.out
            rw [h2]
            exact h1
          case measure => simp [intOf]
end Go.Proofs.Ytkfejjoehgipmaa.L4

/-
  The contract of chapter 4's DecodeKey of the specification. Condition: a byte string of at most 2^40 bytes.
-/
namespace Go.Proofs.Ytkfejjoehgipmaa.L4
set_option maxRecDepth 100000
open Go.Op (bytesLess)
open Go.ChangeShapes Go.WideShapes Go.ChangeAt Go.RowKit Mem Sl Ex L2
set_option linter.unusedVariables false

def decB (l : List Int) : Bool := (decO (toU l)).isSome
@[simp] theorem toU_length (l : List Int) : (toU l).length = l.length := by simp [toU]
theorem Row.facts3 {w : World} {g : Nat} {t : TypeId} {x y z : Value} (h : Row w g t #[x, y, z]) : w.cell? ⟨g, 0, none⟩ = some x ∧ w.cell? ⟨g, 1, none⟩ = some y ∧ w.cell? ⟨g, 2, none⟩ = some z ∧ w.frozen? ⟨g, 0, none⟩ = false ∧ w.frozen? ⟨g, 1, none⟩ = false ∧ w.frozen? ⟨g, 2, none⟩ = false := by
  refine ⟨?_, ?_, ?_, h.free 0, h.free 1, h.free 2⟩ <;> (rw [h.cell]; rfl)
structure Two (w wr : World) (t : TypeId) (k : K) : Prop where
  z : Row wr w.heap.size t #[.int .i64 0, .int .i64 0, .string ⟨#[]⟩]
  k : Row wr (w.heap.size + 1) t k.cells
  b : Below w.heap.size w wr
theorem Two.made (w : World) (t : TypeId) (k : K) : Two w ((w.alloc (.cells #[.int .i64 0, .int .i64 0, .string ⟨#[]⟩] t)).alloc (.cells k.cells t)) t k := by
  refine ⟨(Row.made w t _).more _, ?_, below_alloc (below_alloc (Below.refl _ _) _ (Nat.le_refl _)) _ (Nat.le_refl _)⟩
  rw [show w.heap.size + 1 = (w.alloc (.cells #[.int .i64 0, .int .i64 0, .string ⟨#[]⟩] t)).heap.size by simp]
  exact Row.made _ _ _
theorem Two.next {w wr w' : World} {t : TypeId} {k : K} (h : Two w wr t k) (hb : Below wr.heap.size wr w') : Two w w' t k :=
  ⟨h.z.below hb h.z.inside, h.k.below hb h.k.inside, h.b.trans (hb.mono h.b.size)⟩

end Go.Proofs.Ytkfejjoehgipmaa.L4

/-
  The exact laws' helpers for keys and ranges: toKey, szKey, eqKey, toKeyRange, szKeyRange. Condition: a room of at most 2^20.
-/
namespace Go.Proofs.Ytkfejjoehgipmaa.L4
set_option maxRecDepth 100000
open Go.ChangeShapes Go.WideShapes Go.ChangeAt Go.RowKit Mem Sl Ex L2
set_option linter.unusedVariables false

def left (n : Int) (s : ByteArray) : Int := if n - s.size < 0 then -1 else n - s.size
theorem toKey_any (k : K) (w : World) :
    Calls Try.prog 38 #[k.v] w fun e w' => e = .returned k.v ∧ Below w.heap.size w w' := by
  obtain ⟨kd, n, s⟩ := k
  unfold K.v
  go_enter Try.func38, Try.ntmps38
  go_wp2
  refine bodyPost_ret (v := .agg #[.int .i64 kd, .int .i64 n, .string s]) (by simp [results, Try.results38, go_sem]) rfl ?_
  exact ⟨rfl, below_alloc (below_alloc (below_alloc (Below.refl _ _) _ (Nat.le_refl _)) _ (Nat.le_refl _)) _ (Nat.le_refl _)⟩
theorem szKey_any (k : K) (n : Int) (h : k.text.size ≤ maxLen) (hn0 : -1 ≤ n) (hn1 : n ≤ 1048576) (w : World) :
    Calls Try.prog 36 #[k.v, .int .i64 n] w fun e w' => e = .returned (.int .i64 (left n k.text)) ∧ Below w.heap.size w w' := by
  obtain ⟨kd, m, s⟩ := k
  unfold K.v left
  have hs : (s.size : Int) ≤ 9223372036854775807 := by have : s.size ≤ maxLen := h; unfold maxLen at this; omega
  have HB := Lib.hid (fun o => below_alloc (Below.refl w.heap.size w) o (Nat.le_refl _))
  clear h
  by_cases hlt : n - (s.size : Int) < 0
  · go_enter Try.func36, Try.ntmps36
    go_wp2
    go_ret
    exact ⟨rfl, HB.out _⟩
  · go_enter Try.func36, Try.ntmps36
    go_wp2
    go_ret
    exact ⟨rfl, HB.out _⟩
theorem eqKey_any (k : K) (w : World) :
    Calls Try.prog 46 #[k.v, k.v] w fun e w' => e = .returned (.bool true) ∧ Below w.heap.size w w' := by
  obtain ⟨kd, n, s⟩ := k
  unfold K.v
  have HB := Lib.hid (fun o p => below_alloc (below_alloc (Below.refl w.heap.size w) o (Nat.le_refl _)) p (Nat.le_refl _))
  go_enter Try.func46, Try.ntmps46
  go_wp2
  go_ret
  exact ⟨rfl, HB.out _ _⟩

def R.left (n : Int) (r : R) : Int := if L4.left n r.lo.text < 0 then -1 else L4.left (L4.left n r.lo.text) r.hi.text
theorem left_range (n : Int) (s : ByteArray) (h : n ≤ 1048576) : -1 ≤ left n s ∧ left n s ≤ 1048576 := by unfold left; split <;> omega
theorem szKeyRange_any (r : R) (n : Int) (h : r.lo.text.size ≤ maxLen) (h2 : r.hi.text.size ≤ maxLen) (hn0 : -1 ≤ n) (hn1 : n ≤ 1048576) (w : World) :
    Calls Try.prog 47 #[r.v, .int .i64 n] w fun e w' => e = .returned (.int .i64 (r.left n)) ∧ Below w.heap.size w w' := by
  obtain ⟨m1, hm1⟩ : ∃ m, left n r.lo.text = m := ⟨_, rfl⟩
  have b1 := left_range n r.lo.text hn1
  rw [hm1] at b1
  obtain ⟨m2, hm2⟩ : ∃ m, left m1 r.hi.text = m := ⟨_, rfl⟩
  have b2 := left_range m1 r.hi.text b1.2
  rw [hm2] at b2
  have H1 := Lib.hid (fun w => szKey_any r.lo n h hn0 hn1 w)
  have H2 := Lib.hid (fun w => szKey_any r.hi m1 h2 b1.1 b1.2 w)
  rw [hm1] at H1
  rw [hm2] at H2
  have HE := Lib.hid (show r.left n = if m1 < 0 then -1 else m2 by unfold R.left; rw [hm1, hm2])
  rw [HE.out]
  clear HE hm1 hm2 h h2
  have h2' : m2 < 0 → m2 = -1 := fun h => by omega
  obtain ⟨w2, hw2⟩ : ∃ w2, w2 = w.alloc (.cells r.cells 76) := ⟨_, rfl⟩
  have r2 : Row w2 w.heap.size 76 r.cells := by rw [hw2]; exact Row.made _ _ _
  have hb2 : Below w.heap.size w w2 := by rw [hw2]; exact below_alloc (Below.refl _ _) _ (Nat.le_refl _)
  obtain ⟨hl, hh, ⟨ka, na, sa⟩, ⟨kb, nb, sb⟩⟩ := r
  simp only [K.v, R.v, R.cells] at H1 H2 hw2 r2 ⊢
  have HR := Lib.hid (And.intro r2 hb2)
  clear r2 hb2
  go_enter Try.func47, Try.ntmps47
  go_wp2_with fail
  go_at_call 36
  rw [← hw2]
  clear hw2
  with_reducible refine (H1.out w2).mono ?_
  rintro e w3 ⟨rfl, h3⟩
  have HR3 := Lib.hid (And.intro (HR.out.1.below h3 HR.out.1.inside) (HR.out.2.trans (h3.mono HR.out.2.size)))
  clear h3
  by_cases hlt : m1 < 0
  · go_wp2_with fail
    go_ret
    exact ⟨by first | (rw [if_pos hlt]; rfl) | rfl, HR3.out.2⟩
  · have c5 := HR3.out.1.cell 5
    have c6 := HR3.out.1.cell 6
    have c7 := HR3.out.1.cell 7
    simp at c5 c6 c7
    go_wp2_with fail
    go_at_call 36
    with_reducible refine (H2.out w3).mono ?_
    rintro e w4 ⟨rfl, h4⟩
    have HB := Lib.hid (HR3.out.2.trans (h4.mono HR3.out.2.size))
    clear h4
    by_cases hlt2 : m2 < 0
    · have e2 := h2' hlt2
      subst e2
      go_wp2_with fail
      go_ret
      exact ⟨by first | (rw [if_neg hlt]; rfl) | rfl, HB.out⟩
    · go_wp2_with fail
      go_ret
      exact ⟨by first | (rw [if_neg hlt]; rfl) | rfl, HB.out⟩
theorem Row.cells8 {w : World} {g : Nat} {t : TypeId} {a0 a1 a2 a3 a4 a5 a6 a7 : Value} (h : Row w g t #[a0, a1, a2, a3, a4, a5, a6, a7]) : w.cell? ⟨g, 0, none⟩ = some a0 ∧ w.cell? ⟨g, 1, none⟩ = some a1 ∧ w.cell? ⟨g, 2, none⟩ = some a2 ∧ w.cell? ⟨g, 3, none⟩ = some a3 ∧ w.cell? ⟨g, 4, none⟩ = some a4 ∧ w.cell? ⟨g, 5, none⟩ = some a5 ∧ w.cell? ⟨g, 6, none⟩ = some a6 ∧ w.cell? ⟨g, 7, none⟩ = some a7 := by
  refine ⟨?_, ?_, ?_, ?_, ?_, ?_, ?_, ?_⟩ <;> (rw [h.cell]; rfl)
structure Tri (w wr : World) (t u : TypeId) (r : R) (x : Array Value) : Prop where
  r : Row wr w.heap.size t r.cells
  z : Row wr (w.heap.size + 1) u #[.bool false, .bool false, .int .i64 0, .int .i64 0, .string ⟨#[]⟩, .int .i64 0, .int .i64 0, .string ⟨#[]⟩]
  x : Row wr (w.heap.size + 1 + 1) u x
  b : Below w.heap.size w wr
theorem Tri.next {w wr w' : World} {t u : TypeId} {r : R} {x : Array Value} (h : Hid (Tri w wr t u r x)) (hb : Below wr.heap.size wr w') : Hid (Tri w w' t u r x) :=
  ⟨h.out.r.below hb h.out.r.inside, h.out.z.below hb h.out.z.inside, h.out.x.below hb h.out.x.inside, h.out.b.trans (hb.mono h.out.b.size)⟩
theorem Row.apart {w : World} {g g' : Nat} {t : TypeId} {cs : Array Value} (h : Row w g t cs) (i : Nat) (v : Value) (hne : g ≠ g') : Row (w.setCell ⟨g', i, none⟩ v) g t cs := (Below.heap_setCell w ⟨g', i, none⟩ v g hne).trans h
theorem Tri.put {w wr : World} {t u : TypeId} {r : R} {x : Array Value} (h : Hid (Tri w wr t u r x)) (i : Nat) (v : Value) : Hid (Tri w (wr.setCell ⟨w.heap.size + 1 + 1, i, none⟩ v) t u r (x.setIfInBounds i v)) :=
  ⟨Row.apart h.out.r i v (by omega), Row.apart h.out.z i v (by omega), h.out.x.put i v, h.out.b.setCell (by show w.heap.size ≤ w.heap.size + 1 + 1; omega) v⟩
set_option maxHeartbeats 1000000 in
theorem toKeyRange_any (r : R) (w : World) :
    Calls Try.prog 49 #[r.v] w fun e w' => e = .returned r.v ∧ Below w.heap.size w w' := by
  have H1 := Lib.hid (fun w => toKey_any r.lo w)
  have H2 := Lib.hid (fun w => toKey_any r.hi w)
  obtain ⟨w2, hw2⟩ : ∃ u, u = ((w.alloc (.cells r.cells 76)).alloc (.cells #[.bool false, .bool false, .int .i64 0, .int .i64 0, .string ⟨#[]⟩, .int .i64 0, .int .i64 0, .string ⟨#[]⟩] 45)).alloc (.cells #[.bool r.hl, .bool r.hh, .int .i64 0, .int .i64 0, .string ⟨#[]⟩, .int .i64 0, .int .i64 0, .string ⟨#[]⟩] 45) := ⟨_, rfl⟩
  have t2 : Hid (Tri w w2 76 45 r #[.bool r.hl, .bool r.hh, .int .i64 0, .int .i64 0, .string ⟨#[]⟩, .int .i64 0, .int .i64 0, .string ⟨#[]⟩]) := by
    rw [hw2]
    refine ⟨((Row.made w _ _).more _).more _, ?_, ?_, below_alloc (below_alloc (below_alloc (Below.refl _ _) _ (Nat.le_refl _)) _ (Nat.le_refl _)) _ (Nat.le_refl _)⟩
    · refine Row.more ?_ _
      rw [show w.heap.size + 1 = (w.alloc (.cells r.cells 76)).heap.size by simp]
      exact Row.made _ _ _
    · rw [show w.heap.size + 1 + 1 = ((w.alloc (.cells r.cells 76)).alloc (.cells #[.bool false, .bool false, .int .i64 0, .int .i64 0, .string ⟨#[]⟩, .int .i64 0, .int .i64 0, .string ⟨#[]⟩] 45)).heap.size by simp]
      exact Row.made _ _ _
  obtain ⟨hl, hh, ⟨ka, na, sa⟩, ⟨kb, nb, sb⟩⟩ := r
  simp only [K.v, R.v, R.cells] at H1 H2 hw2 ⊢
  go_enter Try.func49, Try.ntmps49
  go_wp2_with fail
  go_at_call 38
  rw [← hw2]
  clear hw2
  with_reducible refine (H1.out w2).mono ?_
  rintro e w3 ⟨rfl, h3⟩
  have t3 := Tri.next t2 h3
  clear t2 h3
  have f2 := t3.out.x.free 2
  have f3 := t3.out.x.free 3
  have f4 := t3.out.x.free 4
  obtain ⟨x0, x1, x2, x3, x4, x5, x6, x7⟩ := Row.cells8 t3.out.x
  obtain ⟨r0, r1, r2, r3, r4, r5, r6, r7⟩ := Row.cells8 (show Row w3 w.heap.size 76 #[.bool hl, .bool hh, .int .i64 ka, .int .i64 na, .string sa, .int .i64 kb, .int .i64 nb, .string sb] from t3.out.r)
  go_wp2_with fail
  go_at_call 38
  have t4 : Hid (Tri w (((w3.setCell ⟨w.heap.size + 1 + 1, 2, none⟩ (.int .i64 ka)).setCell ⟨w.heap.size + 1 + 1, 3, none⟩ (.int .i64 na)).setCell ⟨w.heap.size + 1 + 1, 4, none⟩ (.string sa)) 76 45 ⟨hl, hh, ⟨ka, na, sa⟩, ⟨kb, nb, sb⟩⟩ #[.bool hl, .bool hh, .int .i64 ka, .int .i64 na, .string sa, .int .i64 0, .int .i64 0, .string ⟨#[]⟩]) := Tri.put (Tri.put (Tri.put t3 2 (.int .i64 ka)) 3 (.int .i64 na)) 4 (.string sa)
  obtain ⟨w4, hw4⟩ : ∃ u, u = (((w3.setCell ⟨w.heap.size + 1 + 1, 2, none⟩ (.int .i64 ka)).setCell ⟨w.heap.size + 1 + 1, 3, none⟩ (.int .i64 na)).setCell ⟨w.heap.size + 1 + 1, 4, none⟩ (.string sa)) := ⟨_, rfl⟩
  rw [← hw4] at t4 ⊢
  clear hw4 t3 f2 f3 f4 x0 x1 x2 x3 x4 x5 x6 x7 r0 r1 r2 r3 r4 r5 r6 r7
  with_reducible refine (H2.out w4).mono ?_
  rintro e w5 ⟨rfl, h5⟩
  have t5 := Tri.next t4 h5
  clear t4 h5
  have f5 := t5.out.x.free 5
  have f6 := t5.out.x.free 6
  have f7 := t5.out.x.free 7
  obtain ⟨x0, x1, x2, x3, x4, x5, x6, x7⟩ := Row.cells8 t5.out.x
  obtain ⟨z0, z1, z2, z3, z4, z5, z6, z7⟩ := Row.cells8 t5.out.z
  have g0 := t5.out.z.free 0
  have g1 := t5.out.z.free 1
  have g2 := t5.out.z.free 2
  have g3 := t5.out.z.free 3
  have g4 := t5.out.z.free 4
  have g5 := t5.out.z.free 5
  have g6 := t5.out.z.free 6
  have g7 := t5.out.z.free 7
  go_wp2_with fail
  refine bodyPost_ret (v := .agg #[.bool hl, .bool hh, .int .i64 ka, .int .i64 na, .string sa, .int .i64 kb, .int .i64 nb, .string sb]) (by simp [results, Try.results49, go_sem, z0, z1, z2, z3, z4, z5, z6, z7]) rfl ?_
  refine ⟨rfl, ?_⟩
  exact (((((((((((t5.out.b.setCell (p := ⟨w.heap.size + 1 + 1, 5, none⟩) (by show w.heap.size ≤ w.heap.size + 1 + 1; omega) _).setCell (p := ⟨w.heap.size + 1 + 1, 6, none⟩) (by show w.heap.size ≤ w.heap.size + 1 + 1; omega) _).setCell (p := ⟨w.heap.size + 1 + 1, 7, none⟩) (by show w.heap.size ≤ w.heap.size + 1 + 1; omega) _).setCell (p := ⟨w.heap.size + 1, 0, none⟩) (by show w.heap.size ≤ w.heap.size + 1; omega) _).setCell (p := ⟨w.heap.size + 1, 1, none⟩) (by show w.heap.size ≤ w.heap.size + 1; omega) _).setCell (p := ⟨w.heap.size + 1, 2, none⟩) (by show w.heap.size ≤ w.heap.size + 1; omega) _).setCell (p := ⟨w.heap.size + 1, 3, none⟩) (by show w.heap.size ≤ w.heap.size + 1; omega) _).setCell (p := ⟨w.heap.size + 1, 4, none⟩) (by show w.heap.size ≤ w.heap.size + 1; omega) _).setCell (p := ⟨w.heap.size + 1, 5, none⟩) (by show w.heap.size ≤ w.heap.size + 1; omega) _).setCell (p := ⟨w.heap.size + 1, 6, none⟩) (by show w.heap.size ≤ w.heap.size + 1; omega) _).setCell (p := ⟨w.heap.size + 1, 7, none⟩) (by show w.heap.size ≤ w.heap.size + 1; omega) _)
end Go.Proofs.Ytkfejjoehgipmaa.L4

/-
  How chapter 4's arguments open: a key and a range by value. No condition but the form's own reach.
-/
namespace Go.Proofs.Ytkfejjoehgipmaa.L4
set_option maxRecDepth 100000
open Go.ChangeShapes Go.WideShapes Go.ChangeAt Go.RowKit Mem Sl Ex L2

section
variable {H : Type} {enc : TypeId × Value → H} {W : World} {b : Nat} {sp : Nat → Bool} {hd : Bool}
theorem trod_key {fuel : Nat} {cs : List Value} {x : DataW H × List MemPlace} (h : DataW.trod enc Try.prog W b sp hd fuel 61 cs = some x) :
    ∃ k : K, cs = k.cells.toList ∧ k.text.size ≤ maxLen ∧ (-9223372036854775808 ≤ k.kind ∧ k.kind ≤ 9223372036854775807) ∧ (-9223372036854775808 ≤ k.n ∧ k.n ≤ 9223372036854775807) := by
  obtain ⟨xs, n, _, _, hl, hlen, hf⟩ := DataW.trod_struct Try.underlying61 h
  have hl3 : cs.length = 3 := hl.trans (by kernel_rfl)
  match cs, hl3 with
  | [c0, c1, c2], _ =>
    have h0 : DataW.trod enc Try.prog W b sp hd n 3 (List.take (Try.prog.cellsOf 3) (List.drop 0 [c0, c1, c2])) = xs[0]? := hf 0 _ rfl
    have h1 : DataW.trod enc Try.prog W b sp hd n 3 (List.take (Try.prog.cellsOf 3) (List.drop 1 [c0, c1, c2])) = xs[1]? := hf 1 _ rfl
    have h2 : DataW.trod enc Try.prog W b sp hd n 9 (List.take (Try.prog.cellsOf 9) (List.drop 2 [c0, c1, c2])) = xs[2]? := hf 2 _ rfl
    rw [show (Try.prog.cellsOf 3) = 1 by kernel_rfl] at h0 h1
    rw [show (Try.prog.cellsOf 9) = 1 by kernel_rfl] at h2
    rw [List.getElem?_eq_getElem (by rw [hlen]; decide)] at h0 h1 h2
    obtain ⟨kd, e0, _, w0⟩ := DataW.trod_int Try.underlying3 h0
    obtain ⟨m, e1, _, w1⟩ := DataW.trod_int Try.underlying3 h1
    obtain ⟨s, e2, _, w2⟩ := DataW.trod_string Try.underlying9 h2
    simp at e0 e1 e2
    subst e0; subst e1; subst e2
    exact ⟨⟨kd, m, s⟩, rfl, w2, Law.wf_i64 w0, Law.wf_i64 w1⟩
theorem open_key {b0 : Nat} {v : Value} {d : DataW H} {ps : List MemPlace} (hval : Value.okWide Try.prog W .any b0 61 v) (h0 : DataW.Trod enc Try.prog W b sp hd 61 v d ps) :
    ∃ k : K, v = k.v ∧ k.text.size ≤ maxLen ∧ (-9223372036854775808 ≤ k.kind ∧ k.kind ≤ 9223372036854775807) ∧ (-9223372036854775808 ≤ k.n ∧ k.n ≤ 9223372036854775807) := by
  obtain ⟨cs, rfl, _⟩ := okWide_struct Try.underlying61 hval
  obtain ⟨fuel, hf⟩ := h0
  obtain ⟨k, e, h1, h2⟩ := trod_key hf
  refine ⟨k, ?_, h1, h2⟩
  show Value.agg cs = Value.agg k.cells
  rw [Array.toList_inj.1 (show cs.toList = k.cells.toList from e)]
theorem open_range {b0 : Nat} {v : Value} {d : DataW H} {ps : List MemPlace} (hval : Value.okWide Try.prog W .any b0 76 v) (h0 : DataW.Trod enc Try.prog W b sp hd 76 v d ps) :
    ∃ r : R, v = r.v ∧ r.lo.text.size ≤ maxLen ∧ r.hi.text.size ≤ maxLen ∧ (-9223372036854775808 ≤ r.lo.kind ∧ r.lo.kind ≤ 9223372036854775807) ∧ (-9223372036854775808 ≤ r.lo.n ∧ r.lo.n ≤ 9223372036854775807) ∧ (-9223372036854775808 ≤ r.hi.kind ∧ r.hi.kind ≤ 9223372036854775807) ∧ (-9223372036854775808 ≤ r.hi.n ∧ r.hi.n ≤ 9223372036854775807) := by
  obtain ⟨cs, rfl, _⟩ := okWide_struct Try.underlying76 hval
  obtain ⟨fuel, hf0⟩ := h0
  obtain ⟨xs, n, _, _, hl, hlen, hf⟩ := DataW.trod_struct Try.underlying76 hf0
  have hl8 : cs.toList.length = 8 := hl.trans (by kernel_rfl)
  obtain ⟨l⟩ := cs
  match l, hl8 with
  | [c0, c1, c2, c3, c4, c5, c6, c7], _ =>
    have h0 : DataW.trod enc Try.prog W b sp hd n 4 (List.take (Try.prog.cellsOf 4) (List.drop 0 [c0, c1, c2, c3, c4, c5, c6, c7])) = xs[0]? := hf 0 _ rfl
    have h1 : DataW.trod enc Try.prog W b sp hd n 4 (List.take (Try.prog.cellsOf 4) (List.drop 1 [c0, c1, c2, c3, c4, c5, c6, c7])) = xs[1]? := hf 1 _ rfl
    have h2 : DataW.trod enc Try.prog W b sp hd n 61 (List.take (Try.prog.cellsOf 61) (List.drop 2 [c0, c1, c2, c3, c4, c5, c6, c7])) = xs[2]? := hf 2 _ rfl
    have h3 : DataW.trod enc Try.prog W b sp hd n 61 (List.take (Try.prog.cellsOf 61) (List.drop 5 [c0, c1, c2, c3, c4, c5, c6, c7])) = xs[3]? := hf 3 _ rfl
    rw [show (Try.prog.cellsOf 4) = 1 by kernel_rfl] at h0 h1
    rw [show (Try.prog.cellsOf 61) = 3 by kernel_rfl] at h2 h3
    rw [List.getElem?_eq_getElem (by rw [hlen]; decide)] at h0 h1 h2 h3
    obtain ⟨b0, e0, _⟩ := DataW.trod_bool Try.underlying4 h0
    obtain ⟨b1, e1, _⟩ := DataW.trod_bool Try.underlying4 h1
    obtain ⟨k2, e2, a2, b2, c2'⟩ := trod_key h2
    obtain ⟨k3, e3, a3, b3, c3'⟩ := trod_key h3
    simp [K.cells] at e0 e1 e2 e3
    obtain ⟨rfl, rfl, rfl⟩ := e2
    obtain ⟨rfl, rfl, rfl⟩ := e3
    subst e0; subst e1
    exact ⟨⟨b0, b1, k2, k3⟩, rfl, a2, a3, b2, c2', b3, c3'⟩
end

/-! ### a boxed value as one of several things that lie apart -/
def boxR (g : Nat) (t : TypeId) (cs : Array Value) : Res where
  fp := [g]
  is w := Row w g t cs
  loc := fun hs h => (hs g (by simp)).trans h
theorem push_box {W w : World} {rs : List Res} (h : Sep W w rs) (t : TypeId) (cs : Array Value) (g : Nat) (hg : g = w.heap.size) : Sep W (w.alloc (.cells cs t)) (rs ++ [boxR g t cs]) := by
  subst hg
  exact h.push ((Below.refl _ _).alloc (Nat.le_refl _) _) (Row.made w t cs) (fun b hb => by simp [boxR] at hb; subst hb; exact ⟨Nat.le_refl _, by simp⟩)
theorem box_at {W w : World} {rs : List Res} {g : Nat} {t : TypeId} {cs : Array Value} (h : Sep W w rs) (i : Nat) (hi : rs[i]? = some (boxR g t cs)) : Row w g t cs := h.is i _ hi
theorem box3 {W w : World} {rs : List Res} {g : Nat} {t : TypeId} {x y z : Value} (h : Sep W w rs) (i : Nat) (hi : rs[i]? = some (boxR g t #[x, y, z])) : w.cell? ⟨g, 0, none⟩ = some x ∧ w.cell? ⟨g, 1, none⟩ = some y ∧ w.cell? ⟨g, 2, none⟩ = some z := by
  have h' := box_at h i hi
  refine ⟨?_, ?_, ?_⟩ <;> (rw [h'.cell]; rfl)
theorem rleft_small {n : Int} {r : R} (h : ¬ R.left n r < 0) : (r.lo.text.size : Int) ≤ n ∧ (r.hi.text.size : Int) ≤ n := by
  unfold R.left at h
  split at h
  · omega
  · rename_i h1
    have h2 : ¬ left n r.lo.text < 0 := h1
    have e1 : left n r.lo.text = n - r.lo.text.size ∧ (r.lo.text.size : Int) ≤ n := by
      unfold left at h2 ⊢
      split at h2
      · omega
      · rename_i h3
        rw [if_neg h3]
        omega
    rw [e1.1] at h
    unfold left at h
    split at h <;> omega
theorem rleft_range (n : Int) (r : R) (h : n ≤ 1048576) : -1 ≤ R.left n r ∧ R.left n r ≤ 1048576 := by
  unfold R.left
  split
  · omega
  · exact left_range _ _ (left_range n _ h).2
theorem left_small {n : Int} {s : ByteArray} (h : ¬ left n s < 0) : left n s = n - s.size ∧ (s.size : Int) ≤ n := by
  unfold left at h ⊢
  split at h
  · omega
  · rename_i h2
    rw [if_neg h2]
    omega
end Go.Proofs.Ytkfejjoehgipmaa.L4

/-
  The contract of chapter 4's isLetter of the program (over any seat). No condition.
-/
namespace Go.Proofs.Ytkfejjoehgipmaa.L4
set_option maxRecDepth 100000
open Go.ChangeShapes Go.WideShapes Go.ChangeAt Go.RowKit Mem Sl Ex L2
set_option linter.unusedVariables false
def isLet (c : UInt8) : Bool := decide (97 ≤ c.toNat) && decide (c.toNat ≤ 122)
theorem isLetter_any (c : UInt8) (w : World) :
    Calls Try.prog 114 #[.int .u8 c.toNat] w fun e w' => e = .returned (.bool (isLet c)) ∧ w = w' := by
  by_cases h1 : (97 : Int) ≤ c.toNat <;> by_cases h2 : (c.toNat : Int) ≤ 122 <;>
    (go_enter Try.func114, Try.ntmps114
     go_wp2
     go_ret
     exact ⟨L1.ret_bool (by unfold isLet; have h1' := h1; have h2' := h2; simp only [Bool.false_eq, Bool.true_eq, Bool.and_eq_false_iff, Bool.and_eq_true, decide_eq_false_iff_not, decide_eq_true_eq]; omega), rfl⟩)
end Go.Proofs.Ytkfejjoehgipmaa.L4

/-
  A region that draws its order, walked by hand: an operation is taken first, is skipped, or is the only one that may come up; each is found in the region's list by plain recursion, so that it stands written out. No condition.
-/
namespace Go.Proofs.Ytkfejjoehgipmaa.Reg
set_option maxRecDepth 100000
def nthO {α : Type} : Nat → List α → Option α
  | _, [] => none
  | 0, x :: _ => some x
  | i + 1, _ :: l => nthO i l
theorem nthO_eq {α : Type} : ∀ (l : List α) (i : Nat), l.toArray[i]? = nthO i l
  | [], i => by simp [nthO]
  | x :: l, 0 => by simp [nthO]
  | x :: l, i + 1 => by
    have := nthO_eq l i
    simp only [List.getElem?_toArray, List.getElem?_cons_succ] at this ⊢
    exact this
section
variable {P : Program} {l : List Oper} {Q : Exit → Act → World → Prop} {md : Region.Mode} {S : World → Prop} {fuel i : Nat} {oi : Oper} {v : Value} {listed : Array Bool} {a : Act} {w : World}
theorem take_op (hi : nthO i l = some oi) (hs : Region.noSelect l.toArray = true) (hf : Region.free md l.toArray listed i = true) (hr : (Region.ready md l.toArray listed).contains i = true)
    (hQ : ∀ c a w, Q (.panic c) (a.put oi.dst v) w → Q (.panic c) a w) (hw : Region.wanted oi (yielded l.toArray a.tmps) = true) (hy : ∀ w, S w → (execOp a.eval oi).run P w = .ok (.value v) w) (hS : S w)
    (h : wpAnyH P md l.toArray Q S fuel (listed.setIfInBounds i true) (a.put oi.dst v) w) : wpAnyH P md l.toArray Q S (fuel + 1) listed a w :=
  wpAnyH_take (by rw [nthO_eq]; exact hi) hs hf hr hQ (.inl ⟨hw, hy⟩) hS h
theorem skip_op (hi : nthO i l = some oi) (hs : Region.noSelect l.toArray = true) (hf : Region.free md l.toArray listed i = true) (hr : (Region.ready md l.toArray listed).contains i = true)
    (hQ : ∀ c a w, Q (.panic c) (a.put oi.dst undef) w → Q (.panic c) a w) (hw : Region.wanted oi (yielded l.toArray a.tmps) = false) (hS : S w)
    (h : wpAnyH P md l.toArray Q S fuel (listed.setIfInBounds i true) (a.put oi.dst undef) w) : wpAnyH P md l.toArray Q S (fuel + 1) listed a w :=
  wpAnyH_take (by rw [nthO_eq]; exact hi) hs hf hr hQ (.inr ⟨hw, rfl⟩) hS h
theorem one_op (hi : nthO i l = some oi) (hr : Region.ready md l.toArray listed = [i])
    (h : ∀ K' : Act → World → Prop, Shut (∀ a w, S w → (S w → wpAnyH P md l.toArray Q S fuel (listed.setIfInBounds i true) a w) → K' a w) → if Region.wanted oi (yielded l.toArray a.tmps) = true then Oper.wp P oi a w K' Q else K' (a.put oi.dst undef) w) :
    wpAnyH P md l.toArray Q S (fuel + 1) listed a w :=
  wpAnyH_ready hr (by simp) (AllReadyH.cons (by rw [nthO_eq]; exact hi) h AllReadyH.nil)
theorem cons_op {rs : List Nat} (hi : nthO i l = some oi)
    (h : ∀ K' : Act → World → Prop, Shut (∀ a w, S w → (S w → wpAnyH P md l.toArray Q S fuel (listed.setIfInBounds i true) a w) → K' a w) → if Region.wanted oi (yielded l.toArray a.tmps) = true then Oper.wp P oi a w K' Q else K' (a.put oi.dst undef) w)
    (hs : AllReadyH P md l.toArray Q S fuel listed a w rs) : AllReadyH P md l.toArray Q S fuel listed a w (i :: rs) := AllReadyH.cons (by rw [nthO_eq]; exact hi) h hs
theorem skip_one (hi : nthO i l = some oi) (hr : Region.ready md l.toArray listed = [i]) (hw : Region.wanted oi (yielded l.toArray a.tmps) = false) (hS : S w)
    (h : wpAnyH P md l.toArray Q S fuel (listed.setIfInBounds i true) (a.put oi.dst undef) w) : wpAnyH P md l.toArray Q S (fuel + 1) listed a w :=
  wpAnyH_all hr (by simp) (fun j hj => by
    obtain rfl := List.mem_singleton.1 hj
    unfold wpOp
    have hi' : l.toArray[j]? = some oi := by rw [nthO_eq]; exact hi
    rw [hi']
    simp only [hw]
    exact ⟨hS, h⟩)
end
end Go.Proofs.Ytkfejjoehgipmaa.Reg

/-
  The contracts of chapter 3's cipher: Encrypt and Decrypt, of the program (by its key stream, a closure) and of the specification. Conditions: the slice reads as a list of at most 10^9 bytes.
-/
namespace Go.Proofs.Ytkfejjoehgipmaa.L3
set_option maxRecDepth 100000
open Go.ChangeShapes Go.WideShapes Go.ChangeAt Go.RowKit Mem Sl Ex L2
set_option linter.unusedVariables false


end Go.Proofs.Ytkfejjoehgipmaa.L3

/-
  Chapter 3's draws over several owned things that lie apart: a string of a list, l3Word, l3Words, DrawKeyedHash, DrawEncrypt, DrawDeriveFromString. No condition but that the code is a slice of bytes of at most 2^62 places.
-/
namespace Go.Proofs.Ytkfejjoehgipmaa.Sd
set_option maxRecDepth 100000
open Go.ChangeShapes Go.WideShapes Go.ChangeAt Go.RowKit Mem Sl Ex Draw L2

section
variable {W w : World} {rs : List Res} {e : TypeId} {k : IntKind} {g c : Nat} {l : List Int}
end

section
variable {W w : World} {rs : List Res} {c : Nat}
def Words (l : List Int) : Prop := ∀ x ∈ l, -1 ≤ x ∧ x ≤ 2147483648
end

section
variable {W w : World} {rs : List Res} {a : Option Addr} {len : Nat}
end
end Go.Proofs.Ytkfejjoehgipmaa.Sd

/-
  Chapter 4's draws over several things that lie apart: l4Number, l4Key, l4Any, l4Small and what draws them. No condition but that the code is a slice of bytes of at most 2^62 places.
-/
namespace Go.Proofs.Ytkfejjoehgipmaa.Sd
set_option maxRecDepth 100000
open Go.ChangeShapes Go.WideShapes Go.ChangeAt Go.RowKit Mem Sl Ex Draw L2 L4
set_option linter.unusedVariables false

section
variable {W w : World} {rs : List Res} {g : Nat} {t : TypeId} {cs : Array Value}
theorem put_box (h : Sep W w rs) (i : Nat) (hi : rs[i]? = some (boxR g t cs)) (j : Nat) (v : Value) : Sep W (w.setCell ⟨g, j, none⟩ v) (rs.set i (boxR g t (cs.setIfInBounds j v))) :=
  h.put i hi (Turned.of_grown (grownBy_put w g j v)) ((box_at h i hi).put j v) (fun b hb => hb)
theorem box_end (h : Sep W w (rs ++ [boxR g t cs])) (x y z : Value) : Sep W (((w.setCell ⟨g, 0, none⟩ x).setCell ⟨g, 1, none⟩ y).setCell ⟨g, 2, none⟩ z) rs := by
  have h1 := put_box h rs.length (at_last _ _) 0 x
  rw [set_last] at h1
  have h2 := put_box h1 rs.length (at_last _ _) 1 y
  rw [set_last] at h2
  have h3 := put_box h2 rs.length (at_last _ _) 2 z
  rw [set_last] at h3
  have h4 := drop (ts := []) h3
  rwa [List.append_nil] at h4
theorem box_facts {x y z : Value} (h : Sep W w (rs ++ [boxR g t #[x, y, z]])) : w.cell? ⟨g, 0, none⟩ = some x ∧ w.cell? ⟨g, 1, none⟩ = some y ∧ w.cell? ⟨g, 2, none⟩ = some z ∧ w.frozen? ⟨g, 0, none⟩ = false ∧ w.frozen? ⟨g, 1, none⟩ = false ∧ w.frozen? ⟨g, 2, none⟩ = false := Row.facts3 (box_at h rs.length (at_last _ _))
end

theorem good1 {n : Int} (h0 : -1000000000000 ≤ n) (h1 : n ≤ 1000000000000) : L4.Good ⟨1, n, ⟨#[]⟩⟩ := ⟨by show (1 : Int) ≤ 1; decide, by show (1 : Int) ≤ 3; decide, h0, h1, by intro h; simp at h, rfl, fun _ => rfl⟩
theorem good2 {s : ByteArray} (h : isT s.data.toList = true) : L4.Good ⟨2, 0, s⟩ := ⟨by show (1 : Int) ≤ 2; decide, by show (2 : Int) ≤ 3; decide, by show (-1000000000000 : Int) ≤ 0; decide, by show (0 : Int) ≤ 1000000000000; decide, fun _ => rfl, h, by intro h; simp at h⟩
theorem good3 {n : Int} {s : ByteArray} (h0 : -1000000000000 ≤ n) (h1 : n ≤ 1000000000000) (h : isT s.data.toList = true) : L4.Good ⟨3, n, s⟩ := ⟨by show (1 : Int) ≤ 3; decide, by show (3 : Int) ≤ 3; decide, h0, h1, by intro h; simp at h, h, by intro h; simp at h⟩
theorem two_facts {W w : World} {rs : List Res} {g g2 : Nat} {t t2 : TypeId} {x y z : Value} {x2 y2 z2 : Value} (h : Sep W w ((rs ++ [boxR g t #[x, y, z]]) ++ [boxR g2 t2 #[x2, y2, z2]])) : (w.cell? ⟨g, 0, none⟩ = some x ∧ w.cell? ⟨g, 1, none⟩ = some y ∧ w.cell? ⟨g, 2, none⟩ = some z ∧ w.frozen? ⟨g, 0, none⟩ = false ∧ w.frozen? ⟨g, 1, none⟩ = false ∧ w.frozen? ⟨g, 2, none⟩ = false) ∧ (w.cell? ⟨g2, 0, none⟩ = some x2 ∧ w.cell? ⟨g2, 1, none⟩ = some y2 ∧ w.cell? ⟨g2, 2, none⟩ = some z2 ∧ w.frozen? ⟨g2, 0, none⟩ = false ∧ w.frozen? ⟨g2, 1, none⟩ = false ∧ w.frozen? ⟨g2, 2, none⟩ = false) :=
  ⟨Row.facts3 (box_at h rs.length (at_left (at_last _ _))), box_facts h⟩
theorem drop1 {W w : World} {rs : List Res} {r : Res} (h : Sep W w (rs ++ [r])) : Sep W w rs := by
  have h4 := drop (ts := []) h
  rwa [List.append_nil] at h4
theorem put_last {W w : World} {rs : List Res} {g : Nat} {t : TypeId} {cs : Array Value} (h : Sep W w (rs ++ [boxR g t cs])) (j : Nat) (v : Value) : Sep W (w.setCell ⟨g, j, none⟩ v) (rs ++ [boxR g t (cs.setIfInBounds j v)]) := by
  have h1 := put_box h rs.length (at_last _ _) j v
  rwa [set_last] at h1

theorem put_r {W w : World} {rs ts : List Res} {g : Nat} {t : TypeId} {cs : Array Value} (h : Sep W w (rs ++ ts)) (i : Nat) (hi : ts[i]? = some (boxR g t cs)) (j : Nat) (v : Value) : Sep W (w.setCell ⟨g, j, none⟩ v) (rs ++ ts.set i (boxR g t (cs.setIfInBounds j v))) := by
  have h1 := put_box h (rs.length + i) (by rw [List.getElem?_append_right (by omega)]; simpa using hi) j v
  rwa [List.set_append_right _ _ (by omega), Nat.add_sub_cancel_left] at h1
theorem let_go {W w : World} {rs : List Res} : ∀ {ts : List Res}, Sep W w (rs ++ ts) → Sep W w rs
  | [], h => by rwa [List.append_nil] at h
  | _ :: _, h => let_go (drop h)
theorem r_apart {W w : World} {rs ts : List Res} {g g2 : Nat} {t t2 : TypeId} {cs cs2 : Array Value} (h : Sep W w (rs ++ ts)) (i j : Nat) (hi : ts[i]? = some (boxR g t cs)) (hj : ts[j]? = some (boxR g2 t2 cs2)) (hne : i ≠ j) : g ≠ g2 := fun e =>
  h.apart (rs.length + i) (rs.length + j) _ _ (by rw [List.getElem?_append_right (by omega)]; simpa using hi) (by rw [List.getElem?_append_right (by omega)]; simpa using hj) (by omega) g (by simp [boxR]) (by simp [boxR, e])

section
variable {W w : World} {rs : List Res} {c : Nat}
theorem str_sg (h : Sep W w rs) (i : Nat) (hi : rs[i]? = some (curR W c)) (l : List ByteArray) (P : ByteArray → Prop) (hP : ∀ v ∈ l, P v) (n : Nat) (hn : n = l.length) (h1 : 1 ≤ n) (h2 : n ≤ 1000) (g : Nat) (hg : g = w.heap.size) :
    Calls Try.prog 107 #[.pointer (some ⟨c, 0, none⟩), .slice (some ⟨g, 0, none⟩) n n] (w.alloc (.cells (l.map Value.string).toArray 9)) fun e w' => ∃ s, e = .returned (.string s) ∧ P s ∧ Sep W w' rs := by
  subst hn
  subst hg
  exact (l1Str_on w.heap.size l.length h1 h2 (strs_lit w 9 l P hP) (by simp) (fun e => by have := (cur_on h i hi).lt; omega) (cur_on (h.alloc _) i hi)).mono fun _ _ ⟨s, he, hs, ho⟩ => ⟨s, he, hs, moved (h.alloc _) i hi ho⟩
theorem int_sg (h : Sep W w rs) (i : Nat) (hi : rs[i]? = some (curR W c)) (l : List Int) (Q : Int → Prop) (hQ : ∀ v ∈ l, Q v) (n : Nat) (hn : n = l.length) (h1 : 1 ≤ n) (h2 : n ≤ 1000) (g : Nat) (hg : g = w.heap.size) :
    Calls Try.prog 108 #[.pointer (some ⟨c, 0, none⟩), .slice (some ⟨g, 0, none⟩) n n] (w.alloc (.cells (l.map (Value.int .i64)).toArray 3)) fun e w' => ∃ r, e = .returned (.int .i64 r) ∧ Q r ∧ Sep W w' rs := by
  subst hn
  subst hg
  exact int_s h i hi l Q hQ h1 h2
theorem number_s (h : Sep W w rs) (i : Nat) (hi : rs[i]? = some (curR W c)) :
    Calls Try.prog 139 #[.pointer (some ⟨c, 0, none⟩)] w fun e w' => ∃ n, e = .returned (.int .i64 n) ∧ (-1000000000000 ≤ n ∧ n ≤ 1000000000000) ∧ Sep W w' rs := by
  have H := Lib.hid h
  have HI := Lib.hid hi
  clear h hi
  go_enter Try.func139, Try.ntmps139
  go_wp2_with fail
  go_at_call 106
  refine (below_s H.out i HI.out _ (by decide) (by decide)).mono ?_
  rintro e w1 ⟨x, rfl, ⟨hx0, hx1⟩, h1⟩
  go_wp2_with fail
  go_at_call 108
  refine (int_sg h1 i HI.out [0, 1, 2, -1, 255, 256, -1000000000000, 1000000000000, x] (fun n => -1000000000000 ≤ n ∧ n ≤ 1000000000000) (by intro v hv; simp at hv; omega) 9 rfl (by decide) (by decide) _ rfl).mono ?_
  rintro e w2 ⟨n, rfl, hn, h2⟩
  go_wp2_with fail
  go_ret
  exact ⟨_, rfl, hn, h2⟩
theorem small_s (h : Sep W w rs) (i : Nat) (hi : rs[i]? = some (curR W c)) :
    Calls Try.prog 104 #[.pointer (some ⟨c, 0, none⟩)] w fun e w' => ∃ k : K, e = .returned k.v ∧ (L4.Good k ∧ k.text.size = 0) ∧ Sep W w' rs := by
  have H := Lib.hid (push_box h 28 #[.int .i64 0, .int .i64 0, .string ⟨#[]⟩] w.heap.size rfl)
  have HI := Lib.hid (at_left (m := [boxR w.heap.size 28 #[.int .i64 0, .int .i64 0, .string ⟨#[]⟩]]) hi)
  clear h hi
  go_enter Try.func104, Try.ntmps104
  go_wp2_with fail
  go_at_call 106
  refine (below_s H.out i HI.out _ (by decide) (by decide)).mono ?_
  rintro e w1 ⟨x, rfl, ⟨hx0, hx1⟩, h1⟩
  obtain ⟨z0, z1, z2, f0, f1, f2⟩ := box_facts h1
  have HE := Lib.hid h1
  clear h1
  go_wp2_with fail
  refine bodyPost_ret (v := K.v ⟨1, x, ⟨#[]⟩⟩) (by simp [results, Try.results104, go_sem, K.v, z0, z1, z2]) rfl ?_
  exact ⟨_, rfl, ⟨good1 (by omega) (by omega), rfl⟩, box_end HE.out _ _ _⟩
theorem key_s (h : Sep W w rs) (i : Nat) (hi : rs[i]? = some (curR W c)) :
    Calls Try.prog 129 #[.pointer (some ⟨c, 0, none⟩)] w fun e w' => ∃ k : K, e = .returned k.v ∧ (L4.Good k ∧ k.text.size ≤ 12) ∧ Sep W w' rs := by
  have H := Lib.hid (push_box h 28 #[.int .i64 0, .int .i64 0, .string ⟨#[]⟩] w.heap.size rfl)
  have HI := Lib.hid (at_left (m := [boxR w.heap.size 28 #[.int .i64 0, .int .i64 0, .string ⟨#[]⟩]]) hi)
  clear h hi
  go_enter Try.func129, Try.ntmps129
  go_wp2_with fail
  go_at_call 107
  refine (str_sg H.out i HI.out [⟨#[]⟩, ⟨#[97]⟩, ⟨#[97, 98]⟩, ⟨#[98]⟩, ⟨#[122, 57]⟩, ⟨#[97, 98, 99, 100, 101, 102, 103, 104, 105, 106, 107, 108]⟩] (fun s => isT s.data.toList = true ∧ s.size ≤ 12) (by decide) 6 rfl (by decide) (by decide) _ (by simp)).mono ?_
  rintro e w1 ⟨s, rfl, ⟨hs, hs2⟩, h1⟩
  have HS := Lib.hid hs
  clear hs
  go_wp2_with fail
  go_at_call 106
  refine (below_s h1 i HI.out _ (by decide) (by decide)).mono ?_
  rintro e w2 ⟨x, rfl, ⟨hx0, hx1⟩, h2⟩
  clear h1
  by_cases hx : x = 0
  · subst hx
    obtain ⟨z0, z1, z2, f0, f1, f2⟩ := box_facts h2
    have HE := Lib.hid h2
    clear h2
    go_wp2_with fail
    refine bodyPost_ret (v := K.v ⟨2, 0, s⟩) (by simp [results, Try.results129, go_sem, K.v, z0, z1, z2]) rfl ?_
    exact ⟨_, rfl, ⟨good2 HS.out, hs2⟩, box_end HE.out _ _ _⟩
  · have hx' : (x == 0) = false := by simp [hx]
    by_cases hy : x = 1
    · subst hy
      go_wp2_with fail
      go_at_call 139
      refine (number_s h2 i HI.out).mono ?_
      rintro e w3 ⟨n, rfl, ⟨hn0, hn1⟩, h3⟩
      clear h2
      obtain ⟨z0, z1, z2, f0, f1, f2⟩ := box_facts h3
      have HE := Lib.hid h3
      clear h3
      go_wp2_with fail
      refine bodyPost_ret (v := K.v ⟨3, n, s⟩) (by simp [results, Try.results129, go_sem, K.v, z0, z1, z2]) rfl ?_
      exact ⟨_, rfl, ⟨good3 hn0 hn1 HS.out, hs2⟩, box_end HE.out _ _ _⟩
    · have hy' : (x == 1) = false := by simp [hy]
      go_wp2_with fail
      go_at_call 139
      refine (number_s h2 i HI.out).mono ?_
      rintro e w3 ⟨n, rfl, ⟨hn0, hn1⟩, h3⟩
      clear h2
      obtain ⟨z0, z1, z2, f0, f1, f2⟩ := box_facts h3
      have HE := Lib.hid h3
      clear h3
      go_wp2_with fail
      refine bodyPost_ret (v := K.v ⟨1, n, ⟨#[]⟩⟩) (by simp [results, Try.results129, go_sem, K.v, z0, z1, z2]) rfl ?_
      exact ⟨_, rfl, ⟨good1 hn0 hn1, by show (⟨#[]⟩ : ByteArray).size ≤ 12; decide⟩, box_end HE.out _ _ _⟩
def Some (k : K) : Prop := 0 ≤ k.kind ∧ k.kind ≤ 5 ∧ -1000000000001 ≤ k.n ∧ k.n ≤ 1000000000001 ∧ k.text.size ≤ 13
theorem any_s (h : Sep W w rs) (i : Nat) (hi : rs[i]? = some (curR W c)) :
    Calls Try.prog 103 #[.pointer (some ⟨c, 0, none⟩)] w fun e w' => ∃ k : K, e = .returned k.v ∧ Some k ∧ Sep W w' rs := by
  have H := Lib.hid (push_box h 28 #[.int .i64 0, .int .i64 0, .string ⟨#[]⟩] w.heap.size rfl)
  have HI := Lib.hid (at_left (m := [boxR w.heap.size 28 #[.int .i64 0, .int .i64 0, .string ⟨#[]⟩]]) hi)
  clear h hi
  go_enter Try.func103, Try.ntmps103
  go_wp2_with fail
  go_at_call 129
  refine (key_s H.out i HI.out).mono ?_
  rintro e w1 ⟨⟨kd, n, s⟩, rfl, ⟨hg, hs⟩, h1⟩
  have hb : 1 ≤ kd ∧ kd ≤ 3 ∧ -1000000000000 ≤ n ∧ n ≤ 1000000000000 := ⟨hg.k0, hg.k1, hg.n0, hg.n1⟩
  obtain ⟨k0, k1, n0, n1⟩ := hb
  have hs' : s.size ≤ 12 := hs
  clear hg hs
  simp only [K.v]
  obtain ⟨g, hg⟩ : ∃ g, g = w1.heap.size := ⟨_, rfl⟩
  obtain ⟨wA, hwA⟩ : ∃ u, u = w1.alloc (.cells #[.int .i64 kd, .int .i64 n, .string s] 28) := ⟨_, rfl⟩
  have HA := Lib.hid (show Sep W wA _ by rw [hwA]; exact push_box h1 28 #[.int .i64 kd, .int .i64 n, .string s] g hg)
  have HI2 := Lib.hid (at_left (m := [boxR g 28 #[.int .i64 kd, .int .i64 n, .string s]]) HI.out)
  have hin := (box_at h1 rs.length (at_last _ _)).inside
  have hne : ¬ g = w.heap.size := by omega
  have hne2 : ¬ w.heap.size = g := by omega
  clear h1 hin
  go_wp2_with fail
  go_at_call 106
  rw [← hwA, ← hg]
  clear hwA hg
  refine (below_s HA.out i HI2.out _ (by decide) (by decide)).mono ?_
  rintro e w2 ⟨x, rfl, ⟨hx0, hx1⟩, h2⟩
  by_cases hx : x = 0
  · subst hx
    go_wp2_with fail
    go_at_call 106
    refine (below_s h2 i HI2.out _ (by decide) (by decide)).mono ?_
    rintro e w3 ⟨v, rfl, ⟨hv0, hv1⟩, h3⟩
    clear h2
    obtain ⟨⟨z0, z1, z2, f0, f1, f2⟩, y0, y1, y2, e0, e1, e2⟩ := two_facts h3
    have HE := Lib.hid h3
    clear h3
    go_wp2_with fail
    refine bodyPost_ret (v := K.v ⟨v, n, s⟩) (by simp [results, Try.results103, go_sem, K.v, z0, z1, z2]) rfl ?_
    exact ⟨_, rfl, ⟨by show 0 ≤ v; omega, by show v ≤ 5; omega, by show _ ≤ n; omega, by show n ≤ _; omega, by show (s).size ≤ 13; omega⟩, box_end (drop1 (put_last HE.out 0 (.int .i64 v))) _ _ _⟩
  · have hx' : (x == 0) = false := by simp [hx]
    by_cases hy : x = 1
    · subst hy
      go_wp2_with fail
      go_at_call 108
      refine (int_sg h2 i HI2.out [-1000000000001, 1000000000001, 5] (fun n => -1000000000001 ≤ n ∧ n ≤ 1000000000001) (by decide) 3 rfl (by decide) (by decide) _ rfl).mono ?_
      rintro e w3 ⟨v, rfl, ⟨hv0, hv1⟩, h3⟩
      clear h2
      obtain ⟨⟨z0, z1, z2, f0, f1, f2⟩, y0, y1, y2, e0, e1, e2⟩ := two_facts h3
      have HE := Lib.hid h3
      clear h3
      go_wp2_with fail
      refine bodyPost_ret (v := K.v ⟨kd, v, s⟩) (by simp [results, Try.results103, go_sem, K.v, z0, z1, z2]) rfl ?_
      exact ⟨_, rfl, ⟨by show 0 ≤ kd; omega, by show kd ≤ 5; omega, by show _ ≤ v; omega, by show v ≤ _; omega, by show (s).size ≤ 13; omega⟩, box_end (drop1 (put_last HE.out 1 (.int .i64 v))) _ _ _⟩
    · have hy' : (x == 1) = false := by simp [hy]
      by_cases hz : x = 2
      · subst hz
        go_wp2_with fail
        go_at_call 107
        refine (str_sg h2 i HI2.out [⟨#[65]⟩, ⟨#[97, 32, 98]⟩, ⟨#[97, 98, 99, 100, 101, 102, 103, 104, 105, 106, 107, 108, 109]⟩, ⟨#[120, 39]⟩] (fun s => s.size ≤ 13) (by decide) 4 rfl (by decide) (by decide) _ rfl).mono ?_
        rintro e w3 ⟨v, rfl, hv, h3⟩
        clear h2
        obtain ⟨⟨z0, z1, z2, f0, f1, f2⟩, y0, y1, y2, e0, e1, e2⟩ := two_facts h3
        have HE := Lib.hid h3
        clear h3
        go_wp2_with fail
        refine bodyPost_ret (v := K.v ⟨kd, n, v⟩) (by simp [results, Try.results103, go_sem, K.v, z0, z1, z2]) rfl ?_
        exact ⟨_, rfl, ⟨by show 0 ≤ kd; omega, by show kd ≤ 5; omega, by show _ ≤ n; omega, by show n ≤ _; omega, by show (v).size ≤ 13; omega⟩, box_end (drop1 (put_last HE.out 2 (.string v))) _ _ _⟩
      · have hz' : (x == 2) = false := by simp [hz]
        obtain ⟨⟨z0, z1, z2, f0, f1, f2⟩, y0, y1, y2, e0, e1, e2⟩ := two_facts h2
        have HE := Lib.hid h2
        clear h2
        go_wp2_with fail
        refine bodyPost_ret (v := K.v ⟨kd, n, s⟩) (by simp [results, Try.results103, go_sem, K.v, z0, z1, z2]) rfl ?_
        exact ⟨_, rfl, ⟨by show 0 ≤ kd; omega, by show kd ≤ 5; omega, by show _ ≤ n; omega, by show n ≤ _; omega, by show (s).size ≤ 13; omega⟩, box_end (drop1 (HE.out)) _ _ _⟩
end
end Go.Proofs.Ytkfejjoehgipmaa.Sd

/-
  Chapter 1's l1Bent, over several things that lie apart: a copy of a row, one byte turned, cut or longer by one.
-/
namespace Go.Proofs.Ytkfejjoehgipmaa.Sd
set_option maxRecDepth 100000
open Go.ChangeShapes Go.WideShapes Go.ChangeAt Go.RowKit Mem Sl Ex Draw L2 L4
set_option linter.unusedVariables false

section
variable {W w : World} {rs : List Res} {c : Nat}
end
end Go.Proofs.Ytkfejjoehgipmaa.Sd

