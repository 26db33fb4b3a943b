/-
  A pack, laid by my program pack.py: the texts L3Num, L3Hash, L3Fn, L1Num, L1Fmt, L4Num, L4Par, L4Sp, L4Cmp, L4Cod, L4Dec, L4Law, L4Open, L4Im0, Reg, L3Enc, Sd3, Sd4, Sd4b, one behind the other; each begins with its own words.
-/
import Derived.Test.YtephiilicebdcaaPa
import Derived.Lib.ConvBytes
import Derived.Lib.ItoaNum
import Derived.Lib.ItoaLen
import Derived.Lib.AtoiTie
import Derived.Lib.AtoiAllCases
import Derived.Outline
import Derived.IntWalk
import Derived.WalkLawsBesides
import Derived.WalkSpells
import GoSem.Op.String
import Derived.ChangeArms
import Derived.Deep.RegionHeld3
import Derived.Test.YtephiilicebdcaaRows
import Derived.Deep.AppendLies
import Derived.Deep.RegionWith
/-
  Plain mathematics of chapter 3: the hash, that it depends on each value, the cipher, that each direction inverts the other. No condition.
-/
namespace Go.Proofs.Ytephiilicebdcaa.L3
set_option maxRecDepth 100000

def hstep (d v : Int) : Int := (d * 1000003 + v % 2147483647 + 13) % 2147483647
def hfold (d : Int) (l : List Int) : Int := l.foldl hstep d
def hs (l : List Int) : Int := hfold 11 l
def kh (k : Int) (l : List Int) : Int := hs (k :: (l ++ [k]))
theorem hstep_range (d v : Int) : 0 ≤ hstep d v ∧ hstep d v < 2147483647 := by unfold hstep; omega
theorem hfold_range {d : Int} (h : 0 ≤ d ∧ d < 2147483647) : ∀ l, 0 ≤ hfold d l ∧ hfold d l < 2147483647
  | [] => h
  | v :: l => hfold_range (hstep_range d v) l
theorem hs_range (l : List Int) : 0 ≤ hs l ∧ hs l < 2147483647 := hfold_range (by omega) l
theorem kh_range (k : Int) (l : List Int) : 0 ≤ kh k l ∧ kh k l < 2147483647 := hs_range _
theorem hs_snoc (l : List Int) (v : Int) : hs (l ++ [v]) = hstep (hs l) v := by simp [hs, hfold]
theorem hs_take (l : List Int) (k : Nat) (h : k < l.length) : hs (l.take (k + 1)) = hstep (hs (l.take k)) l[k] := by rw [List.take_succ_eq_append_getElem h, hs_snoc]
theorem hdiff (d e r : Int) (h : (d * 1000003 + r + 13) % 2147483647 = (e * 1000003 + r + 13) % 2147483647) : ∃ k, (d - e) * 1000003 = 2147483647 * k := by
  have a := Int.emod_add_mul_ediv (d * 1000003 + r + 13) 2147483647
  have b := Int.emod_add_mul_ediv (e * 1000003 + r + 13) 2147483647
  rw [h] at a
  generalize (d * 1000003 + r + 13) / 2147483647 = p at *
  generalize (e * 1000003 + r + 13) / 2147483647 = q at *
  generalize (e * 1000003 + r + 13) % 2147483647 = s at *
  refine ⟨p - q, ?_⟩
  clear h
  rw [Int.mul_sub, Int.sub_mul]
  generalize 2147483647 * p = P at *
  generalize 2147483647 * q = Q at *
  generalize d * 1000003 = D at *
  generalize e * 1000003 = E at *
  omega
theorem hcancel (x k : Int) (h : x * 1000003 = 2147483647 * k) (h1 : -2147483647 < x) (h2 : x < 2147483647) : x = 0 := by
  have e : x = 2147483647 * (k * 1523789695 - x * 709572) := by
    have a : 2147483647 * (k * 1523789695) = (2147483647 * k) * 1523789695 := by rw [Int.mul_assoc]
    rw [Int.mul_sub, a, ← h, Int.mul_assoc]
    clear a h
    omega
  generalize (k * 1523789695 - x * 709572) = z at e
  clear h
  omega
theorem hstep_left {d e v : Int} (hd : 0 ≤ d ∧ d < 2147483647) (he : 0 ≤ e ∧ e < 2147483647) (h : hstep d v = hstep e v) : d = e := by
  unfold hstep at h
  obtain ⟨k, hk⟩ := hdiff d e _ h
  have := hcancel (d - e) k hk (by clear h hk; omega) (by clear h hk; omega)
  clear h hk
  omega
theorem hstep_right {d v u : Int} (h : hstep d v = hstep d u) : v % 2147483647 = u % 2147483647 := by
  unfold hstep at h
  omega
theorem hfold_left : ∀ (l : List Int) {d e : Int}, 0 ≤ d ∧ d < 2147483647 → 0 ≤ e ∧ e < 2147483647 → hfold d l = hfold e l → d = e
  | [], _, _, _, _, h => h
  | v :: l, d, e, hd, he, h => hstep_left hd he (hfold_left l (hstep_range d v) (hstep_range e v) h)
theorem hfold_set : ∀ (l : List Int) (i : Nat) (v d : Int) (hi : i < l.length), 0 ≤ d ∧ d < 2147483647 → hfold d (l.set i v) = hfold d l → v % 2147483647 = l[i] % 2147483647
  | [], i, v, d, hi, _, _ => by simp at hi
  | u :: l, 0, v, d, hi, hd, h => by
    have := hfold_left l (hstep_range d v) (hstep_range d u) h
    exact hstep_right this
  | u :: l, i + 1, v, d, hi, hd, h => hfold_set l i v (hstep d u) (by simpa using hi) (hstep_range d u) h
/-- The keyed hash depends on each of its values. -/
theorem kh_set (k : Int) (l : List Int) (i : Nat) (v : Int) (hi : i < l.length) (h : kh k (l.set i v) = kh k l) : v % 2147483647 = l[i] % 2147483647 := by
  have e : k :: (l.set i v ++ [k]) = (k :: (l ++ [k])).set (i + 1) v := by
    rw [List.set_cons_succ, List.set_append_left _ _ hi]
  unfold kh hs at h
  rw [e] at h
  have := hfold_set (k :: (l ++ [k])) (i + 1) v 11 (by simp; omega) (by omega) h
  rw [this]
  simp [List.getElem_append_left, hi]

/-- A byte in, a byte out; i is its place. -/
def encB (k : Int) (i : Nat) (b : Int) : Int := (b + kh k [(i : Int)] % 256) % 256
def decB (k : Int) (i : Nat) (b : Int) : Int := (b - kh k [(i : Int)] % 256) % 256
def encL (k : Int) (l : List Int) : List Int := l.mapIdx (encB k)
def decL (k : Int) (l : List Int) : List Int := l.mapIdx (decB k)
theorem encB_range (k : Int) (i : Nat) (b : Int) : 0 ≤ encB k i b ∧ encB k i b ≤ 255 := by unfold encB; omega
theorem decB_range (k : Int) (i : Nat) (b : Int) : 0 ≤ decB k i b ∧ decB k i b ≤ 255 := by unfold decB; omega
theorem dec_enc_B (k : Int) (i : Nat) (b : Int) (h : 0 ≤ b ∧ b ≤ 255) : decB k i (encB k i b) = b := by unfold encB decB; omega
theorem enc_dec_B (k : Int) (i : Nat) (b : Int) (h : 0 ≤ b ∧ b ≤ 255) : encB k i (decB k i b) = b := by unfold encB decB; omega
@[simp] theorem encL_length (k : Int) (l : List Int) : (encL k l).length = l.length := by simp [encL]
@[simp] theorem decL_length (k : Int) (l : List Int) : (decL k l).length = l.length := by simp [decL]
theorem encL_byte (k : Int) (l : List Int) : ∀ x ∈ encL k l, 0 ≤ x ∧ x ≤ 255 := by
  intro x hx
  obtain ⟨i, hi, rfl⟩ := List.getElem_of_mem hx
  simp only [encL, List.getElem_mapIdx]
  exact encB_range ..
theorem decL_byte (k : Int) (l : List Int) : ∀ x ∈ decL k l, 0 ≤ x ∧ x ≤ 255 := by
  intro x hx
  obtain ⟨i, hi, rfl⟩ := List.getElem_of_mem hx
  simp only [decL, List.getElem_mapIdx]
  exact decB_range ..
theorem dec_enc (k : Int) (l : List Int) (h : ∀ x ∈ l, 0 ≤ x ∧ x ≤ 255) : decL k (encL k l) = l := by
  refine List.ext_getElem (by simp) fun i h1 h2 => ?_
  simp only [decL, encL, List.getElem_mapIdx]
  exact dec_enc_B _ _ _ (h _ (List.getElem_mem _))
theorem enc_dec (k : Int) (l : List Int) (h : ∀ x ∈ l, 0 ≤ x ∧ x ≤ 255) : encL k (decL k l) = l := by
  refine List.ext_getElem (by simp) fun i h1 h2 => ?_
  simp only [decL, encL, List.getElem_mapIdx]
  exact enc_dec_B _ _ _ (h _ (List.getElem_mem _))
theorem encL_take (k : Int) (l : List Int) (i : Nat) (h : i < l.length) : encL k (l.take (i + 1)) = encL k (l.take i) ++ [encB k i l[i]] := by
  rw [List.take_succ_eq_append_getElem h, encL, List.mapIdx_concat, List.length_take, Nat.min_eq_left (Nat.le_of_lt h)]
  rfl
theorem decL_take (k : Int) (l : List Int) (i : Nat) (h : i < l.length) : decL k (l.take (i + 1)) = decL k (l.take i) ++ [decB k i l[i]] := by
  rw [List.take_succ_eq_append_getElem h, decL, List.mapIdx_concat, List.length_take, Nat.min_eq_left (Nat.le_of_lt h)]
  rfl

/-- The bytes as numbers, their count ahead of them. -/
def b2i (l : List Int) : List Int := (l.length : Int) :: l
def derive (k : Int) (l : List Int) : Int := max 1 (kh k (b2i l))
theorem derive_range (k : Int) (l : List Int) : 1 ≤ derive k l ∧ derive k l ≤ 2147483646 := by
  have := kh_range k (b2i l)
  unfold derive
  omega
end Go.Proofs.Ytephiilicebdcaa.L3

/-
  The contracts of chapter 3's hash: fold, Hash, KeyedHash, of the specification and of the program. Conditions: the slice reads as a list of at most 2^40 numbers; the accumulator is a remainder modulo Modulus.
-/
namespace Go.Proofs.Ytephiilicebdcaa.L3
set_option maxRecDepth 100000
open Go.ChangeShapes Go.WideShapes Go.ChangeAt Go.RowKit Mem Sl Ex L2
set_option linter.unusedVariables false

theorem info64h : (Try.prog.info? 3).map (fun i => (i.zero, i.size, i.bytes)) = some (some (.int .i64 0), 1, 8) := by kernel_rfl
theorem modM (v : Int) : L1.modV v 2147483647 = v % 2147483647 := by
  unfold L1.modV
  rw [if_pos (L1.inB_true.mpr ⟨by omega, by omega⟩)]
theorem own_lit (w : World) (e : TypeId) (k : IntKind) (l : List Int) {B : Nat} (hB : B ≤ w.heap.size) (hl : l.length ≤ maxLen) : Own (w.alloc (.cells (ints k l).toArray e)) B e k (some ⟨w.heap.size, 0, none⟩) l.length l :=
  ⟨by simp, .inr ⟨w.heap.size, l.length, (ints k l).toArray, rfl, hB, heap_alloc_new w _, Nat.le_refl _, hl, by simp, by rw [Nat.mul_one]; exact List.take_of_length_le (by simp)⟩⟩
theorem hfold_take (d : Int) (l : List Int) (k : Nat) (h : k < l.length) : hfold d (l.take (k + 1)) = hstep (hfold d (l.take k)) l[k] := by
  rw [List.take_succ_eq_append_getElem h]; unfold hfold; rw [List.foldl_append]; rfl
theorem hfold_append (d : Int) (l m : List Int) : hfold d (l ++ m) = hfold (hfold d l) m := by simp [hfold]
theorem kh_folds (k : Int) (l : List Int) : hfold (hfold (hfold 11 [k]) l) [k] = kh k l := by
  unfold kh hs
  rw [show k :: (l ++ [k]) = ([k] ++ l) ++ [k] by simp, hfold_append, hfold_append]

theorem reads_at (w : World) (k : IntKind) (x : Int) (t : TypeId) (g : Nat) (hg : g = w.heap.size) : Reads (w.alloc (.cells #[.int k x] t)) (g + 1) (some ⟨g, 0, none⟩) (ints k [x]) := by
  subst hg
  exact reads_one w k x t
end Go.Proofs.Ytephiilicebdcaa.L3

/-
  The contracts of chapter 3's other functions: BytesToInts, DeriveFromString, IsValidKey, Encrypt, Decrypt, of the specification and of the program. Conditions: the slice reads as a list of at most 2^40 bytes (2^27 where the specification's Encrypt is called).
-/
namespace Go.Proofs.Ytephiilicebdcaa.L3
set_option maxRecDepth 100000
open Go.ChangeShapes Go.WideShapes Go.ChangeAt Go.RowKit Mem Sl Ex L2
set_option linter.unusedVariables false



/-! ### a string's bytes -/
def strB (s : ByteArray) : List Int := s.data.toList.map fun b => (b.toNat : Int)
theorem strB_length (s : ByteArray) : (strB s).length = s.size := by unfold strB; rw [List.length_map, Array.length_toList]; rfl
theorem strB_byt (s : ByteArray) : Byt (strB s) := by
  intro x hx
  obtain ⟨b, _, rfl⟩ := List.mem_map.1 hx
  have := b.toNat_lt
  exact ⟨by omega, by omega⟩
theorem strB_reads (w : World) (e : TypeId) (s : ByteArray) : Reads (Lib.bytesWorld w e s) (Lib.bytesWorld w e s).heap.size (some ⟨w.heap.size, 0, none⟩) (ints .u8 (strB s)) := fun j hj => by
  have hj' : j < s.size := by rw [ints_length, strB_length] at hj; exact hj
  refine ⟨_, rfl, by rw [Lib.bytesWorld_size]; simp, ?_⟩
  have h1 := Lib.bytesWorld_cell w e s j hj'
  have hj2 : j < s.data.toList.length := by rw [Array.length_toList]; exact hj'
  rw [Addr.add_lit, Nat.zero_add, h1, ints_get _ _ _ (by rw [strB_length]; exact hj')]
  unfold strB
  rw [List.getElem_map, List.getD_eq_getElem?_getD, List.getElem?_eq_getElem hj2]
  rfl
theorem strB_below (w : World) (e : TypeId) (s : ByteArray) : Below w.heap.size w (Lib.bytesWorld w e s) :=
  ⟨rfl, by unfold Lib.bytesWorld World.freeze; rfl, rfl, by rw [Lib.bytesWorld_size]; omega, fun j hj => Lib.bytesWorld_at_old w e s j hj⟩

theorem implMax_b (a b : Int) (w : World) :
    Calls Try.prog 73 #[.int .i64 a, .int .i64 b] w fun e w' => e = .returned (.int .i64 (max a b)) ∧ Below w.heap.size w w' := by
  have hc : (w.alloc (.cells #[.int .i64 b] 3)).cell? ⟨w.heap.size, 0, none⟩ = some (.int .i64 b) := by simp [go_sem]
  go_enter Try.func73, Try.ntmps73
  go_wp2_with (go_at_call 83; refine (L1.extremes_one _ _ _ _ hc).mono ?_; rintro e w' ⟨rfl, rfl⟩)
  go_ret
  exact ⟨rfl, by repeat (first | exact Below.refl _ _ | apply Below.drew | (refine Below.alloc ?_ (Nat.le_refl _) _))⟩
theorem specMax_b (a b : Int) (w : World) :
    Calls Try.prog 75 #[.int .i64 a, .int .i64 b] w fun e w' => e = .returned (.int .i64 (max a b)) ∧ Below w.heap.size w w' :=
  (L1.specMax_any a b w).mono fun _ _ ⟨he, hw⟩ => ⟨he, by rw [← hw]; exact Below.refl _ _⟩
end Go.Proofs.Ytephiilicebdcaa.L3

/-
  Plain facts on decimal numerals, of no program: the digits that FormatInt's loop lays, that a numeral is parsed back to its number, and when a string is the numeral of a number in the range 0 to MaxValue. No condition.
-/
namespace Go.Proofs.Ytephiilicebdcaa.L1
set_option maxRecDepth 100000

/-- The decimal digits of u, none for 0. -/
def digs (u : Nat) : List UInt8 :=
  if _h : u = 0 then [] else digs (u / 10) ++ [UInt8.ofNat (48 + u % 10)]
termination_by u
decreasing_by omega

theorem digs_zero : digs 0 = [] := by rw [digs, dif_pos rfl]
theorem digs_step {u : Nat} (h : u ≠ 0) : digs u = digs (u / 10) ++ [UInt8.ofNat (48 + u % 10)] := by rw [digs, dif_neg h]
theorem digs_eq (u : Nat) (h : u ≠ 0) : digs u = Lib.decDigits u := by
  induction u using Nat.strongRecOn with
  | _ u ih =>
    rw [digs_step h]
    by_cases h10 : u < 10
    · rw [Lib.decDigits, dif_pos h10, show u / 10 = 0 by omega, digs_zero, Nat.mod_eq_of_lt h10]; rfl
    · rw [Lib.decDigits, dif_neg h10, ih (u / 10) (by omega) (by omega)]
theorem digs_length (u : Nat) : (digs u).length ≤ Lib.nDigits u := by
  by_cases h : u = 0
  · subst h; rw [digs_zero]; exact Nat.zero_le _
  · rw [digs_eq u h, Lib.decDigits_length]; exact Nat.le_refl _

/-- FormatInt's value. -/
theorem itoa_pos {n : Int} (h : 0 < n) : Lib.itoa n = digs n.natAbs := by
  unfold Lib.itoa
  rw [if_neg (by omega), digs_eq _ (by omega), show n.toNat = n.natAbs by omega]
theorem itoa_neg {n : Int} (h : n < 0) : Lib.itoa n = 45 :: digs n.natAbs := by
  unfold Lib.itoa
  rw [if_pos h, digs_eq _ (by omega)]
theorem itoa_zero : Lib.itoa 0 = [48] := by
  unfold Lib.itoa
  rw [if_neg (by omega)]
  exact Lib.decDigits_one (by omega)

theorem decFrom_snoc (l : List UInt8) (b : UInt8) : ∀ acc, Lib.decFrom acc (l ++ [b]) = (Lib.decFrom acc l).bind fun n => (Lib.digitVal b).map fun d => n * 10 + d := by
  induction l with
  | nil =>
    intro acc
    simp only [List.nil_append, Lib.decFrom]
    cases Lib.digitVal b <;> rfl
  | cons a t ih =>
    intro acc
    simp only [List.cons_append, Lib.decFrom]
    cases Lib.digitVal a with
    | none => rfl
    | some d => exact ih _

theorem digitVal_dig (d : Nat) (h : d < 10) : Lib.digitVal (UInt8.ofNat (48 + d)) = some d := by
  have e : (UInt8.ofNat (48 + d)).toNat = 48 + d := by
    rw [UInt8.toNat_ofNat']; omega
  unfold Lib.digitVal
  rw [if_pos (by rw [e]; omega), e]
  congr 1; omega

theorem decFrom_dec (u : Nat) : Lib.decFrom 0 (Lib.decDigits u) = some u := by
  induction u using Nat.strongRecOn with
  | _ u ih =>
    by_cases h10 : u < 10
    · rw [Lib.decDigits_one h10]
      simp only [Lib.decFrom, digitVal_dig u h10]
      simp
    · rw [Lib.decDigits, dif_neg h10, decFrom_snoc, ih (u / 10) (by omega), digitVal_dig _ (by omega)]
      simp only [Option.bind_some, Option.map_some]
      congr 1; omega

theorem nDigits_pow (k u : Nat) (h : u < 10 ^ (k + 1)) : Lib.nDigits u ≤ k + 1 := by
  induction k generalizing u with
  | zero => rw [Lib.nDigits_small (by simpa using h)]; exact Nat.le_refl _
  | succ k ih =>
    by_cases h10 : u < 10
    · rw [Lib.nDigits_small h10]; omega
    · rw [Lib.nDigits_big h10]
      have := ih (u / 10) (by rw [Nat.pow_succ] at h; omega)
      omega

/-- l is the numeral of n, and n lies in the range 0 to MaxValue. -/
def Num (l : List UInt8) (n : Int) : Prop := 0 ≤ n ∧ n ≤ 1000000000000 ∧ Lib.itoa n = l

theorem itoa_nonneg {n : Int} (h : 0 ≤ n) : Lib.itoa n = Lib.decDigits n.toNat := by
  unfold Lib.itoa; rw [if_neg (by omega)]
theorem Num.length {l : List UInt8} {n : Int} (h : Num l n) : 1 ≤ l.length ∧ l.length ≤ 13 := by
  obtain ⟨h0, h1, h2⟩ := h
  rw [← h2, itoa_nonneg h0, Lib.decDigits_length]
  exact ⟨Lib.nDigits_pos _, nDigits_pow 12 _ (by show _ < 10000000000000; omega)⟩
theorem Num.dec {l : List UInt8} {n : Int} (h : Num l n) : Lib.decFrom 0 l = some n.toNat := by
  obtain ⟨h0, h1, h2⟩ := h
  rw [← h2, itoa_nonneg h0]; exact decFrom_dec _
theorem Num.digit {l : List UInt8} {n : Int} (h : Num l n) (k : Nat) (b : UInt8) (hb : l[k]? = some b) : 48 ≤ b.toNat ∧ b.toNat ≤ 57 := by
  obtain ⟨d, hd⟩ := Lib.digit_of_decFrom l 0 _ h.dec k b hb
  unfold Lib.digitVal at hd
  split at hd
  · assumption
  · cases hd
theorem Num.atoi {l : List UInt8} {n : Int} (h : Num l n) : Lib.atoiAll l = .ok n := by
  have hl := h.length
  have hd := h.dec
  rw [Lib.atoiAll_short l (by omega)]
  have ha : Lib.atoi l = some n := by
    cases l with
    | nil => simp at hl
    | cons b r =>
      have hb := h.digit 0 b rfl
      have e1 : (b == 45) = false := by
        rw [beq_eq_false_iff_ne]; intro e; subst e; revert hb; decide
      have e2 : (b == 43) = false := by
        rw [beq_eq_false_iff_ne]; intro e; subst e; revert hb; decide
      simp only [Lib.atoi, e1, e2, Lib.decNat, List.isEmpty_cons, Bool.false_eq_true, if_false, hd, Option.map_some]
      congr 1
      have := h.1
      omega
  rw [ha]; rfl
theorem Num.unique {l : List UInt8} {n m : Int} (h : Num l n) (h' : Num l m) : n = m := by
  have h1 := h.atoi
  rw [h'.atoi] at h1
  injection h1 with e
  exact e.symm

/-- ParseInt's two results. -/
def pOk (l : List UInt8) : Bool := match Lib.atoiAll l with
  | .ok v => decide (0 ≤ v) && decide (v ≤ 1000000000000) && (Lib.itoa v == l)
  | _ => false
def pVal (l : List UInt8) : Int := if pOk l then (match Lib.atoiAll l with | .ok v => v | _ => 0) else 0

theorem Num.ok {l : List UInt8} {n : Int} (h : Num l n) : pOk l = true := by
  unfold pOk; rw [h.atoi]; simp [h.1, h.2.1, h.2.2]
theorem Num.val {l : List UInt8} {n : Int} (h : Num l n) : pVal l = n := by
  unfold pVal; rw [h.ok, h.atoi]; rfl
theorem pOk_num {l : List UInt8} (h : pOk l = true) : Num l (pVal l) := by
  unfold pOk at h
  split at h
  · rename_i v ha
    simp only [Bool.and_eq_true, decide_eq_true_eq, beq_iff_eq] at h
    have : Num l v := ⟨h.1.1, h.1.2, h.2⟩
    rw [this.val]; exact this
  · cases h
theorem pVal_no {l : List UInt8} (h : pOk l = false) : pVal l = 0 := by unfold pVal; rw [h]; rfl
theorem not_num {l : List UInt8} (h : pOk l = false) (n : Int) : ¬ Num l n := fun hn => by rw [hn.ok] at h; cases h
theorem pVal_bounds (l : List UInt8) : 0 ≤ pVal l ∧ pVal l ≤ 1000000000000 := by
  cases h : pOk l with
  | true => exact ⟨(pOk_num h).1, (pOk_num h).2.1⟩
  | false => rw [pVal_no h]; omega

end Go.Proofs.Ytephiilicebdcaa.L1

/-
  The contract of the specification's FormatInt: the decimal numeral of n, for every int. New memory only.
-/
namespace Go.Proofs.Ytephiilicebdcaa.L1
set_option maxRecDepth 100000
open Go.ChangeShapes Go.WideShapes Go.ChangeAt Go.RowKit

def FmtRel (n : Int) (s x : Value) (w w' : World) : Prop :=
  ∃ (y : Int) (l : List UInt8), x = .int .i64 y ∧ s = .string ⟨l.toArray⟩ ∧ digs y.natAbs ++ l = digs n.natAbs ∧ (0 ≤ n → 0 ≤ y) ∧ (n ≤ 0 → y ≤ 0) ∧ -9223372036854775808 ≤ y ∧ y ≤ 9223372036854775807 ∧ Below w.heap.size w w'

theorem tmod10_nat (y : Int) : (y.tmod 10).natAbs = y.natAbs % 10 := by
  rw [Int.natAbs_tmod]; rfl
theorem tdiv10_nat (y : Int) : (y.tdiv 10).natAbs = y.natAbs / 10 := by
  rw [Int.natAbs_tdiv]; rfl
theorem conv_one (w : World) (y d : Int) (h0 : 0 ≤ d) (h : d.natAbs = y.natAbs % 10) :
    (convert 22 9 (.slice (some ⟨w.heap.size, 0, none⟩) 1 1)).run Try.prog (w.alloc (.cells #[.int .u8 (48 + d)] 5)) = .ok (.string ⟨[UInt8.ofNat (48 + y.natAbs % 10)].toArray⟩) (w.alloc (.cells #[.int .u8 (48 + d)] 5)) :=
  run_convert_bytes_back (P := Try.prog) _ 22 9 5 ⟨w.heap.size, 0, none⟩ 1 [UInt8.ofNat (48 + y.natAbs % 10)] Try.underlying22 Try.underlying5 Try.underlying9 (fun j hj => by
    obtain rfl : j = 0 := by simp at hj; omega
    simp [go_sem]
    omega)

theorem fmt_next (n y : Int) (l : List UInt8) (w w' : World) (hy : y ≠ 0) (hd : digs y.natAbs ++ l = digs n.natAbs) (h : (0 ≤ n → 0 ≤ y) ∧ (n ≤ 0 → y ≤ 0)) (hy0 : -9223372036854775808 ≤ y) (hy1 : y ≤ 9223372036854775807) (hb : Below w.heap.size w w') :
    FmtRel n (.string (⟨#[48 + UInt8.ofNat (y.natAbs % 10)]⟩ ++ ⟨l.toArray⟩)) (.int .i64 (y.tdiv 10)) w w' ∧ (intOf (.int .i64 (y.tdiv 10))).natAbs < (intOf (.int .i64 y)).natAbs := by
  have hq := tdiv10_nat y
  have hs : 0 ≤ y → 0 ≤ y.tdiv 10 := fun h => Int.tdiv_nonneg h (by decide)
  have hs' : y ≤ 0 → y.tdiv 10 ≤ 0 := fun h => by
    have := Int.tdiv_nonneg (a := -y) (b := 10) (by omega) (by decide)
    rw [Int.neg_tdiv] at this
    omega
  refine ⟨⟨y.tdiv 10, (48 + UInt8.ofNat (y.natAbs % 10)) :: l, rfl, rfl, ?_, fun a => hs (h.1 a), fun a => hs' (h.2 a), by omega, by omega, hb⟩, by simp only [intOf]; omega⟩
  rw [hq, ← hd, digs_step (u := y.natAbs) (by omega), List.append_assoc, UInt8.ofNat_add]
  rfl


end Go.Proofs.Ytephiilicebdcaa.L1

/-
  Plain mathematics of chapter 4: keys, their order, their bytes, their texts: the bytes are ordered like the keys, and a key is told by its bytes and by its text. No condition.
-/
namespace Go.Proofs.Ytephiilicebdcaa.L4
set_option maxRecDepth 100000
open Go.Op (bytesLess)

/-! ### byte strings in order -/
theorem less_irrefl : ∀ (a : List UInt8), bytesLess a a = false
  | [] => rfl
  | x :: r => by simp [bytesLess, less_irrefl r]
theorem less_total : ∀ (a b : List UInt8), a ≠ b → bytesLess a b = false → bytesLess b a = true
  | [], [], h, _ => absurd rfl h
  | _ :: _, [], _, _ => rfl
  | [], _ :: _, _, h => by simp [bytesLess] at h
  | a :: x, b :: y, hne, h => by
    simp only [bytesLess, Bool.or_eq_false_iff, decide_eq_false_iff_not, UInt8.not_lt] at h
    obtain ⟨h1, h2⟩ := h
    by_cases e : a = b
    · subst e
      simp at h2
      have := less_total x y (fun e2 => hne (by rw [e2])) h2
      simp [bytesLess, this]
    · have : b < a := by
        rcases UInt8.lt_or_eq_of_le h1 with h3 | h3
        · exact h3
        · exact absurd h3.symm e
      simp [bytesLess, this]
theorem less_asymm : ∀ (a b : List UInt8), bytesLess a b = true → bytesLess b a = false
  | [], [], h => by simp [bytesLess] at h
  | _ :: _, [], h => by simp [bytesLess] at h
  | [], _ :: _, _ => rfl
  | a :: x, b :: y, h => by
    simp only [bytesLess, Bool.or_eq_true, decide_eq_true_eq, Bool.and_eq_true, beq_iff_eq] at h
    simp only [bytesLess, Bool.or_eq_false_iff, decide_eq_false_iff_not, UInt8.not_lt, Bool.and_eq_false_imp, beq_iff_eq]
    rcases h with h | ⟨rfl, h⟩
    · exact ⟨UInt8.le_of_lt h, fun e => by subst e; exact absurd h (UInt8.lt_irrefl _)⟩
    · exact ⟨UInt8.le_refl _, fun _ => less_asymm x y h⟩
theorem less_trans : ∀ (a b c : List UInt8), bytesLess a b = true → bytesLess b c = true → bytesLess a c = true
  | [], [], _, h1, _ => by simp [bytesLess] at h1
  | _ :: _, [], _, h1, _ => by simp [bytesLess] at h1
  | _, _ :: _, [], _, h2 => by simp [bytesLess] at h2
  | [], _ :: _, _ :: _, _, _ => by simp [bytesLess]
  | a :: x, b :: y, c :: z, h1, h2 => by
    simp only [bytesLess, Bool.or_eq_true, decide_eq_true_eq, Bool.and_eq_true, beq_iff_eq] at h1 h2 ⊢
    rcases h1 with h1 | ⟨rfl, h1⟩ <;> rcases h2 with h2 | ⟨rfl, h2⟩
    · exact .inl (UInt8.lt_trans h1 h2)
    · exact .inl h1
    · exact .inl h2
    · exact .inr ⟨rfl, less_trans x y z h1 h2⟩
theorem less_append : ∀ (x y u v : List UInt8), x.length = y.length → bytesLess (x ++ u) (y ++ v) = (bytesLess x y || (x == y && bytesLess u v))
  | [], [], u, v, _ => by simp [bytesLess]
  | _ :: _, [], _, _, h => by simp at h
  | [], _ :: _, _, _, h => by simp at h
  | a :: x, b :: y, u, v, h => by
    have ih := less_append x y u v (by simpa using h)
    simp only [List.cons_append, bytesLess, ih, List.cons_beq_cons]
    cases decide (a < b) <;> cases hab : (a == b) <;> simp

def sgn (a b : Bool) : Int := if a then -1 else if b then 1 else 0
def cmpL (x y : List UInt8) : Int := sgn (bytesLess x y) (!(bytesLess x y || x == y))
theorem cmpL_less {x y : List UInt8} (h : bytesLess x y = true) : cmpL x y = -1 := by simp [cmpL, sgn, h]
theorem cmpL_refl (x : List UInt8) : cmpL x x = 0 := by simp [cmpL, sgn, less_irrefl]
theorem cmpL_more {x y : List UInt8} (h : bytesLess y x = true) : cmpL x y = 1 := by
  have h1 := less_asymm y x h
  have h2 : x ≠ y := fun e => by subst e; rw [less_irrefl] at h; cases h
  simp [cmpL, sgn, h1, h2]
theorem cmpL_cases (x y : List UInt8) : (bytesLess x y = true ∧ cmpL x y = -1) ∨ (x = y ∧ cmpL x y = 0) ∨ (bytesLess y x = true ∧ cmpL x y = 1) := by
  cases h : bytesLess x y with
  | true => exact .inl ⟨rfl, cmpL_less h⟩
  | false =>
    by_cases e : x = y
    · subst e; exact .inr (.inl ⟨rfl, cmpL_refl x⟩)
    · have := less_total x y e h
      exact .inr (.inr ⟨this, cmpL_more this⟩)
theorem cmpL_swap (x y : List UInt8) : cmpL y x = -cmpL x y := by
  rcases cmpL_cases x y with ⟨h, e⟩ | ⟨rfl, e⟩ | ⟨h, e⟩
  · rw [e, cmpL_more h]; rfl
  · rw [e]; rfl
  · rw [e, cmpL_less h]
theorem cmpL_zero {x y : List UInt8} : cmpL x y = 0 ↔ x = y := by
  rcases cmpL_cases x y with ⟨h, e⟩ | ⟨rfl, e⟩ | ⟨h, e⟩
  · rw [e]; exact ⟨fun h => by omega, fun e => by subst e; rw [less_irrefl] at h; cases h⟩
  · exact ⟨fun _ => rfl, fun _ => e⟩
  · rw [e]; exact ⟨fun h => by omega, fun e => by subst e; rw [less_irrefl] at h; cases h⟩
theorem cmpL_trans {x y z : List UInt8} (h1 : cmpL x y ≤ 0) (h2 : cmpL y z ≤ 0) : cmpL x z ≤ 0 := by
  rcases cmpL_cases x y with ⟨h, e⟩ | ⟨rfl, e⟩ | ⟨h, e⟩
  · rcases cmpL_cases y z with ⟨h', e'⟩ | ⟨rfl, e'⟩ | ⟨h', e'⟩
    · rw [cmpL_less (less_trans _ _ _ h h')]; omega
    · exact h1
    · omega
  · exact h2
  · omega
theorem cmpL_range (x y : List UInt8) : -1 ≤ cmpL x y ∧ cmpL x y ≤ 1 := by
  rcases cmpL_cases x y with ⟨_, e⟩ | ⟨_, e⟩ | ⟨_, e⟩ <;> omega
theorem cmpL_append (x y u v : List UInt8) (h : x.length = y.length) : cmpL (x ++ u) (y ++ v) = if x = y then cmpL u v else cmpL x y := by
  by_cases e : x = y
  · subst e
    rw [if_pos rfl]
    have e2 : (x ++ u == x ++ v) = (u == v) := by rw [Bool.eq_iff_iff, beq_iff_eq, beq_iff_eq, List.append_cancel_left_eq]
    simp [cmpL, less_append, less_irrefl, e2]
  · rw [if_neg e]
    have e2 : (x ++ u == y ++ v) = false := by
      rw [beq_eq_false_iff_ne]
      exact fun h2 => e (List.append_inj h2 h).1
    have e3 : (x == y) = false := by simpa using e
    simp only [cmpL, less_append x y u v h, e2, e3, Bool.false_and, Bool.or_false]

/-! ### a number's bytes, the greatest first -/
def be : Nat → Nat → List UInt8
  | 0, _ => []
  | k + 1, m => UInt8.ofNat (m / 256 ^ k % 256) :: be k m
@[simp] theorem be_length : ∀ (k m : Nat), (be k m).length = k
  | 0, _ => rfl
  | k + 1, m => by simp [be, be_length k m]
theorem be_mod : ∀ (k m : Nat), be k m = be k (m % 256 ^ k)
  | 0, _ => rfl
  | k + 1, m => by
    have e1 : m % 256 ^ (k + 1) / 256 ^ k % 256 = m / 256 ^ k % 256 := by
      rw [Nat.pow_succ, Nat.mod_mul_right_div_self, Nat.mod_mod]
    have e2 : m % 256 ^ (k + 1) % 256 ^ k = m % 256 ^ k := Nat.mod_mod_of_dvd m ⟨256, by rw [Nat.pow_succ]⟩
    simp only [be, e1]
    rw [be_mod k m, be_mod k (m % 256 ^ (k + 1)), e2]
theorem ofNat_lt {a b : Nat} (ha : a < 256) (hb : b < 256) : (UInt8.ofNat a < UInt8.ofNat b) ↔ a < b := by
  rw [UInt8.lt_iff_toNat_lt, UInt8.toNat_ofNat', UInt8.toNat_ofNat', Nat.mod_eq_of_lt ha, Nat.mod_eq_of_lt hb]
theorem ofNat_inj {a b : Nat} (ha : a < 256) (hb : b < 256) (h : UInt8.ofNat a = UInt8.ofNat b) : a = b := by
  have := congrArg UInt8.toNat h
  rwa [UInt8.toNat_ofNat', UInt8.toNat_ofNat', Nat.mod_eq_of_lt ha, Nat.mod_eq_of_lt hb] at this
theorem be_less : ∀ (k m n : Nat), m < 256 ^ k → n < 256 ^ k → bytesLess (be k m) (be k n) = decide (m < n)
  | 0, m, n, hm, hn => by
    simp at hm hn
    subst hm; subst hn
    rfl
  | k + 1, m, n, hm, hn => by
    have hp : 0 < 256 ^ k := Nat.pow_pos (by decide)
    have qm : m / 256 ^ k < 256 := Nat.div_lt_of_lt_mul (by rw [Nat.pow_succ] at hm; exact hm)
    have qn : n / 256 ^ k < 256 := Nat.div_lt_of_lt_mul (by rw [Nat.pow_succ] at hn; exact hn)
    have ih := be_less k (m % 256 ^ k) (n % 256 ^ k) (Nat.mod_lt _ hp) (Nat.mod_lt _ hp)
    rw [← be_mod, ← be_mod] at ih
    simp only [be, bytesLess, ih, Nat.mod_eq_of_lt qm, Nat.mod_eq_of_lt qn]
    have dm := Nat.div_add_mod m (256 ^ k)
    have dn := Nat.div_add_mod n (256 ^ k)
    rcases Nat.lt_trichotomy (m / 256 ^ k) (n / 256 ^ k) with h | h | h
    · rw [decide_eq_true ((ofNat_lt qm qn).2 h), Bool.true_or]
      symm
      rw [decide_eq_true_iff]
      exact Nat.lt_of_div_lt_div h
    · have e1 : (UInt8.ofNat (m / 256 ^ k) < UInt8.ofNat (n / 256 ^ k)) = False := by rw [h]; simp [UInt8.lt_irrefl]
      have e2 : (UInt8.ofNat (m / 256 ^ k) == UInt8.ofNat (n / 256 ^ k)) = true := by rw [h]; simp
      rw [decide_eq_false (by rw [e1]; exact id), e2, Bool.false_or, Bool.true_and]
      rw [h] at dm
      rw [decide_eq_decide]
      omega
    · rw [decide_eq_false (fun h2 => by rw [ofNat_lt qm qn] at h2; omega)]
      have e2 : (UInt8.ofNat (m / 256 ^ k) == UInt8.ofNat (n / 256 ^ k)) = false := by
        rw [beq_eq_false_iff_ne]
        exact fun e => by have := ofNat_inj qm qn e; omega
      rw [e2, Bool.false_and, Bool.or_false]
      symm
      rw [decide_eq_false_iff_not]
      have := Nat.lt_of_div_lt_div h
      omega
theorem be_inj (k m n : Nat) (hm : m < 256 ^ k) (hn : n < 256 ^ k) (h : be k m = be k n) : m = n := by
  have h1 := be_less k m n hm hn
  have h2 := be_less k n m hn hm
  rw [h, less_irrefl] at h1
  rw [h, less_irrefl] at h2
  have a := of_decide_eq_false h1.symm
  have b := of_decide_eq_false h2.symm
  omega

/-! ### keys -/
structure K where
  kind : Int
  n : Int
  text : ByteArray
def K.t (k : K) : List UInt8 := k.text.data.toList
theorem K.ext' {a b : K} (h1 : a.kind = b.kind) (h2 : a.n = b.n) (h3 : a.t = b.t) : a = b := by
  obtain ⟨k1, n1, ⟨⟨t1⟩⟩⟩ := a
  obtain ⟨k2, n2, ⟨⟨t2⟩⟩⟩ := b
  simp only [K.t] at h1 h2 h3
  subst h1; subst h2; subst h3
  rfl
def K.zero : K := ⟨0, 0, ⟨#[]⟩⟩
def chr (b : UInt8) : Bool := (decide (97 ≤ b.toNat) && decide (b.toNat ≤ 122)) || (decide (48 ≤ b.toNat) && decide (b.toNat ≤ 57))
def isT (l : List UInt8) : Bool := l.all chr && decide (l.length ≤ 12)
def isK (k : K) : Bool := L1.inB k.kind 1 3 && L1.inB k.n (-1000000000000) 1000000000000 && (k.kind != 2 || k.n == 0) && isT k.t && (k.kind != 1 || k.t == [])
structure Good (k : K) : Prop where
  k0 : 1 ≤ k.kind
  k1 : k.kind ≤ 3
  n0 : -1000000000000 ≤ k.n
  n1 : k.n ≤ 1000000000000
  n2 : k.kind = 2 → k.n = 0
  t : isT k.t = true
  t1 : k.kind = 1 → k.t = []
theorem isK_iff {k : K} : isK k = true ↔ Good k := by
  unfold isK
  simp only [Bool.and_eq_true, Bool.or_eq_true, bne_iff_ne, beq_iff_eq, L1.inB_true]
  constructor
  · rintro ⟨⟨⟨⟨⟨a, b⟩, c, d⟩, e⟩, f⟩, g⟩
    exact ⟨a, b, c, d, fun h => e.resolve_left (fun h2 => h2 h), f, fun h => g.resolve_left (fun h2 => h2 h)⟩
  · rintro ⟨a, b, c, d, e, f, g⟩
    refine ⟨⟨⟨⟨⟨a, b⟩, c, d⟩, ?_⟩, f⟩, ?_⟩
    · by_cases h : k.kind = 2
      · exact .inr (e h)
      · exact .inl h
    · by_cases h : k.kind = 1
      · exact .inr (g h)
      · exact .inl h
def cmpK (a b : K) : Int :=
  if !(isK a) || !(isK b) then 0 else if a.kind ≠ b.kind then sgn (decide (a.kind < b.kind)) true else if a.n ≠ b.n then sgn (decide (a.n < b.n)) true else cmpL a.t b.t
def num6 (k : K) : List UInt8 := if k.kind = 2 then [] else be 6 (k.n + 1000000000000).toNat
def encU (k : K) : List UInt8 := if isK k then UInt8.ofNat k.kind.toNat :: (num6 k ++ k.t) else []
theorem encU_good {k : K} (h : isK k = true) : encU k = UInt8.ofNat k.kind.toNat :: (num6 k ++ k.t) := by unfold encU; rw [if_pos h]
theorem cmpL_cons (a b : UInt8) (x y : List UInt8) : cmpL (a :: x) (b :: y) = if a = b then cmpL x y else cmpL [a] [b] := by
  have := cmpL_append [a] [b] x y rfl
  simpa using this
theorem cmpL_one {a b : Nat} (ha : a < 256) (hb : b < 256) (h : a ≠ b) : cmpL [UInt8.ofNat a] [UInt8.ofNat b] = sgn (decide (a < b)) true := by
  rcases Nat.lt_or_gt_of_ne h with h | h
  · rw [cmpL_less (by simp [bytesLess, ofNat_lt ha hb, h])]
    simp [sgn, h]
  · rw [cmpL_more (by simp [bytesLess, ofNat_lt hb ha, h])]
    have : ¬ a < b := by omega
    simp [sgn, this]
/-- The bytes are ordered like the keys. -/
theorem cmp_enc {a b : K} (ha : isK a = true) (hb : isK b = true) : cmpL (encU a) (encU b) = cmpK a b := by
  have ga := isK_iff.1 ha
  have gb := isK_iff.1 hb
  have k1 := ga.k0; have k2 := ga.k1; have k3 := gb.k0; have k4 := gb.k1
  rw [encU_good ha, encU_good hb, cmpL_cons]
  unfold cmpK
  rw [ha, hb]
  simp only [Bool.not_true, Bool.or_self, Bool.false_eq_true, if_false]
  by_cases hk : a.kind = b.kind
  · rw [if_pos (by rw [hk]), if_neg (fun h => h hk)]
    by_cases h2 : a.kind = 2
    · have e1 : num6 a = [] := by unfold num6; rw [if_pos h2]
      have e2 : num6 b = [] := by unfold num6; rw [if_pos (by omega)]
      rw [e1, e2, if_neg (fun h => h (by rw [ga.n2 h2, gb.n2 (by omega)]))]
      rfl
    · have e1 : num6 a = be 6 (a.n + 1000000000000).toNat := by unfold num6; rw [if_neg h2]
      have e2 : num6 b = be 6 (b.n + 1000000000000).toNat := by unfold num6; rw [if_neg (by omega)]
      have a0 := ga.n0; have a1 := ga.n1; have b0 := gb.n0; have b1 := gb.n1
      have p6 : (256 : Nat) ^ 6 = 281474976710656 := by decide
      rw [e1, e2, cmpL_append _ _ _ _ (by simp)]
      by_cases hn : a.n = b.n
      · rw [if_pos (by rw [hn]), if_neg (fun h => h hn)]
      · have hne : (a.n + 1000000000000).toNat ≠ (b.n + 1000000000000).toNat := by omega
        have hbn : be 6 (a.n + 1000000000000).toNat ≠ be 6 (b.n + 1000000000000).toNat := fun h => hne (be_inj 6 _ _ (by rw [p6]; omega) (by rw [p6]; omega) h)
        rw [if_neg hbn, if_pos hn]
        have e3 : (be 6 (a.n + 1000000000000).toNat == be 6 (b.n + 1000000000000).toNat) = false := by simpa using hbn
        unfold cmpL
        rw [e3, be_less 6 _ _ (by rw [p6]; omega) (by rw [p6]; omega), Bool.or_false]
        rw [show decide ((a.n + 1000000000000).toNat < (b.n + 1000000000000).toNat) = decide (a.n < b.n) by rw [decide_eq_decide]; omega]
        cases decide (a.n < b.n) <;> rfl
  · have hne : a.kind.toNat ≠ b.kind.toNat := by omega
    have hbn : UInt8.ofNat a.kind.toNat ≠ UInt8.ofNat b.kind.toNat := fun h => hne (ofNat_inj (by omega) (by omega) h)
    rw [if_neg hbn, if_pos hk, cmpL_one (by omega) (by omega) hne]
    rw [show decide (a.kind.toNat < b.kind.toNat) = decide (a.kind < b.kind) by rw [decide_eq_decide]; omega]
/-- A key is told by its bytes. -/
theorem enc_inj {a b : K} (ha : isK a = true) (hb : isK b = true) (h : encU a = encU b) : a = b := by
  have ga := isK_iff.1 ha
  have gb := isK_iff.1 hb
  have k1 := ga.k0; have k2 := ga.k1; have k3 := gb.k0; have k4 := gb.k1
  have hc := cmp_enc ha hb
  rw [h, cmpL_refl] at hc
  unfold cmpK at hc
  rw [ha, hb] at hc
  simp only [Bool.not_true, Bool.or_self, Bool.false_eq_true, if_false] at hc
  by_cases hk : a.kind = b.kind
  · rw [if_neg (fun h => h hk)] at hc
    by_cases hn : a.n = b.n
    · rw [if_neg (fun h => h hn)] at hc
      exact K.ext' hk hn (cmpL_zero.1 hc.symm)
    · rw [if_pos hn] at hc
      unfold sgn at hc
      split at hc <;> simp at hc
  · rw [if_pos hk] at hc
    unfold sgn at hc
    split at hc <;> simp at hc
theorem cmpK_zero {a b : K} (ha : isK a = true) (hb : isK b = true) : cmpK a b = 0 ↔ a = b := by
  rw [← cmp_enc ha hb, cmpL_zero]
  exact ⟨enc_inj ha hb, fun h => by rw [h]⟩
theorem cmpK_swap (a b : K) : cmpK b a = -cmpK a b := by
  cases ha : isK a with
  | false => simp [cmpK, ha]
  | true => cases hb : isK b with
    | false => simp [cmpK, hb]
    | true => rw [← cmp_enc ha hb, ← cmp_enc hb ha, cmpL_swap]
theorem cmpK_trans {a b c : K} (ha : isK a = true) (hb : isK b = true) (hc : isK c = true) (h1 : cmpK a b ≤ 0) (h2 : cmpK b c ≤ 0) : cmpK a c ≤ 0 := by
  rw [← cmp_enc ha hb] at h1
  rw [← cmp_enc hb hc] at h2
  rw [← cmp_enc ha hc]
  exact cmpL_trans h1 h2
theorem cmpK_range (a b : K) : -1 ≤ cmpK a b ∧ cmpK a b ≤ 1 := by
  cases ha : isK a with
  | false => simp [cmpK, ha]
  | true => cases hb : isK b with
    | false => simp [cmpK, hb]
    | true => rw [← cmp_enc ha hb]; exact cmpL_range _ _
end Go.Proofs.Ytephiilicebdcaa.L4

/-
  Plain mathematics of chapter 4, on: a key is read back from its bytes and from its text, and only a key's bytes and text are read. No condition.
-/
namespace Go.Proofs.Ytephiilicebdcaa.L4
set_option maxRecDepth 100000
open L1

/-! ### bytes -/
def val (l : List UInt8) : Nat := l.foldl (fun n b => n * 256 + b.toNat) 0
theorem val_snoc (l : List UInt8) (b : UInt8) : val (l ++ [b]) = val l * 256 + b.toNat := by unfold val; rw [List.foldl_append]; rfl
theorem val_take (l : List UInt8) (k : Nat) (h : k < l.length) : val (l.take (k + 1)) = val (l.take k) * 256 + l[k].toNat := by rw [List.take_succ_eq_append_getElem h, val_snoc]
theorem foldl_val : ∀ (l : List UInt8) (a : Nat), l.foldl (fun n b => n * 256 + b.toNat) a = a * 256 ^ l.length + val l
  | [], a => by simp [val]
  | b :: l, a => by
    unfold val
    simp only [List.foldl_cons]
    rw [foldl_val l (a * 256 + b.toNat), foldl_val l (0 * 256 + b.toNat), List.length_cons, Nat.pow_succ, Nat.add_mul, Nat.zero_mul, Nat.zero_add, Nat.mul_assoc, Nat.mul_comm (256 ^ l.length) 256]
    omega
theorem val_cons (b : UInt8) (l : List UInt8) : val (b :: l) = b.toNat * 256 ^ l.length + val l := by
  have := foldl_val l b.toNat
  unfold val at this ⊢
  simp only [List.foldl_cons, Nat.zero_mul, Nat.zero_add]
  exact this
theorem val_lt : ∀ (l : List UInt8), val l < 256 ^ l.length
  | [] => by simp [val]
  | b :: l => by
    have := val_lt l
    have hb : b.toNat < 256 := b.toNat_lt
    rw [val_cons, List.length_cons, Nat.pow_succ]
    have : (b.toNat + 1) * 256 ^ l.length ≤ 256 * 256 ^ l.length := Nat.mul_le_mul_right _ (by omega)
    rw [Nat.add_mul, Nat.one_mul] at this
    rw [Nat.mul_comm _ 256]
    omega
theorem val_be : ∀ (k m : Nat), m < 256 ^ k → val (be k m) = m
  | 0, m, h => by simp at h; subst h; rfl
  | k + 1, m, h => by
    have hp : 0 < 256 ^ k := Nat.pow_pos (by decide)
    have q : m / 256 ^ k < 256 := Nat.div_lt_of_lt_mul (by rw [Nat.pow_succ] at h; exact h)
    rw [be, val_cons, be_length, UInt8.toNat_ofNat', Nat.mod_eq_of_lt q, Nat.mod_eq_of_lt (by omega), be_mod, val_be k (m % 256 ^ k) (Nat.mod_lt _ hp), Nat.mul_comm]
    exact Nat.div_add_mod m (256 ^ k)
theorem be_val (l : List UInt8) : be l.length (val l) = l := by
  induction l with
  | nil => rfl
  | cons b l ih =>
    have hp : 0 < 256 ^ l.length := Nat.pow_pos (by decide)
    have hl := val_lt l
    have hb : b.toNat < 256 := b.toNat_lt
    rw [List.length_cons, be, val_cons, Nat.mul_comm, Nat.mul_add_div hp, Nat.div_eq_of_lt hl, Nat.add_zero, Nat.mod_eq_of_lt hb, UInt8.ofNat_toNat, be_mod, Nat.mul_add_mod, Nat.mod_eq_of_lt hl, ih]
def cand : List UInt8 → Option K
  | [] => none
  | b :: r => if b.toNat = 2 then some ⟨2, 0, ⟨r.toArray⟩⟩ else if r.length < 6 then none else some ⟨b.toNat, (val (r.take 6) : Int) - 1000000000000, ⟨(r.drop 6).toArray⟩⟩
/-- DecodeKey's answer. -/
def decO (l : List UInt8) : Option K := (cand l).filter isK
theorem dec_enc {k : K} (h : isK k = true) : decO (encU k) = some k := by
  have g := isK_iff.1 h
  have k0 := g.k0; have k1 := g.k1; have n0 := g.n0; have n1 := g.n1
  have p6 : (256 : Nat) ^ 6 = 281474976710656 := by decide
  have e : cand (encU k) = some k := by
    rw [encU_good h]
    show (if (UInt8.ofNat k.kind.toNat).toNat = 2 then some (⟨2, 0, ⟨(num6 k ++ k.t).toArray⟩⟩ : K) else if (num6 k ++ k.t).length < 6 then none else some ⟨(UInt8.ofNat k.kind.toNat).toNat, (val ((num6 k ++ k.t).take 6) : Int) - 1000000000000, ⟨((num6 k ++ k.t).drop 6).toArray⟩⟩) = some k
    rw [UInt8.toNat_ofNat', Nat.mod_eq_of_lt (by omega)]
    by_cases h2 : k.kind = 2
    · have e1 : num6 k = [] := by unfold num6; rw [if_pos h2]
      rw [if_pos (by omega), e1, List.nil_append]
      congr 1
      exact K.ext' h2.symm (g.n2 h2).symm (by simp [K.t])
    · have e1 : num6 k = be 6 (k.n + 1000000000000).toNat := by unfold num6; rw [if_neg h2]
      rw [if_neg (by omega), e1, if_neg (by simp)]
      congr 1
      refine K.ext' (by show ((k.kind.toNat : Nat) : Int) = k.kind; omega) ?_ ?_
      · show ((val ((be 6 (k.n + 1000000000000).toNat ++ k.t).take 6) : Nat) : Int) - 1000000000000 = k.n
        rw [List.take_append_of_le_length (by simp), List.take_of_length_le (by simp), val_be 6 _ (by rw [p6]; omega)]
        omega
      · show ((be 6 (k.n + 1000000000000).toNat ++ k.t).drop 6).toArray.toList = k.t
        rw [List.drop_append_of_le_length (by simp), List.drop_of_length_le (by simp)]
        rfl
  unfold decO
  rw [e, Option.filter_some, if_pos h]
theorem dec_some {l : List UInt8} {k : K} (h : decO l = some k) : isK k = true ∧ encU k = l := by
  unfold decO at h
  rw [Option.filter_eq_some_iff] at h
  obtain ⟨hc, hk⟩ := h
  refine ⟨hk, ?_⟩
  rw [encU_good hk]
  have g := isK_iff.1 hk
  have k0 := g.k0; have k1 := g.k1; have n0 := g.n0
  unfold cand at hc
  split at hc
  · cases hc
  · rename_i b r
    have hb : b.toNat < 256 := b.toNat_lt
    split at hc
    · rename_i h2
      obtain rfl := Option.some.inj hc
      have e1 : b = UInt8.ofNat (Int.toNat 2) := by rw [← UInt8.toNat_inj, h2]; rfl
      rw [e1]
      simp [num6, K.t]
    · split at hc
      · cases hc
      · rename_i h2 h6
        obtain rfl := Option.some.inj hc
        have hv := val_lt (r.take 6)
        have hl : (r.take 6).length = 6 := by simp; omega
        have hv2 := be_val (r.take 6)
        rw [hl] at hv2
        simp only [num6, K.t] at n0 ⊢
        rw [if_neg (by omega), show ((val (r.take 6) : Int) - 1000000000000 + 1000000000000).toNat = val (r.take 6) by omega, hv2, Int.toNat_natCast, UInt8.ofNat_toNat]
        simp
/-- Whatever reads only keys' bytes, and all of them, reads as DecodeKey. -/
theorem dec_none {l : List UInt8} (h : decO l = none) (k : K) (hk : isK k = true) : encU k ≠ l := fun e => by
  rw [← e, dec_enc hk] at h
  cases h
theorem dec_unique {l : List UInt8} {o : Option K} (h1 : ∀ k, o = some k → isK k = true ∧ encU k = l) (h2 : o = none → ∀ k, isK k = true → encU k ≠ l) : o = decO l := by
  cases o with
  | some k =>
    obtain ⟨a, b⟩ := h1 k rfl
    rw [← b, dec_enc a]
  | none =>
    cases h : decO l with
    | none => rfl
    | some k =>
      obtain ⟨a, b⟩ := dec_some h
      exact absurd b (h2 rfl k a)

/-! ### texts -/
theorem dec_chars (u : Nat) : ∀ b ∈ Lib.decDigits u, 48 ≤ b.toNat ∧ b.toNat ≤ 57 := by
  intro b hb
  obtain ⟨k, hk⟩ := List.getElem?_of_mem hb
  obtain ⟨d, hd⟩ := Lib.digit_of_decFrom _ 0 _ (decFrom_dec u) k b hk
  unfold Lib.digitVal at hd
  split at hd
  · assumption
  · cases hd
theorem dec_inj {u v : Nat} (h : Lib.decDigits u = Lib.decDigits v) : u = v := by
  have a := decFrom_dec u
  rw [h, decFrom_dec v] at a
  exact (Option.some.inj a).symm
theorem dec_ne (u : Nat) : Lib.decDigits u ≠ [] := fun h => by
  have := Lib.decDigits_length u
  rw [h] at this
  have := Lib.nDigits_pos u
  simp at *
  omega
theorem itoa_neg' {n : Int} (h : n < 0) : Lib.itoa n = 45 :: Lib.decDigits n.natAbs := by unfold Lib.itoa; rw [if_pos h]
theorem itoa_no39 (n : Int) : (39 : UInt8) ∉ Lib.itoa n := fun h => by
  by_cases hn : n < 0
  · rw [itoa_neg' hn] at h
    rcases List.mem_cons.1 h with h | h
    · cases h
    · have := (dec_chars _ _ h).1
      revert this; decide
  · rw [itoa_nonneg (by omega)] at h
    have := (dec_chars _ _ h).1
    revert this; decide
theorem itoa_ne (n : Int) : Lib.itoa n ≠ [] := by
  by_cases hn : n < 0
  · rw [itoa_neg' hn]; simp
  · rw [itoa_nonneg (by omega)]; exact dec_ne _
theorem chr_no39 {l : List UInt8} (h : isT l = true) : (39 : UInt8) ∉ l := fun hm => by
  unfold isT at h
  rw [Bool.and_eq_true, List.all_eq_true] at h
  have := h.1 _ hm
  revert this; decide
def fmtU (k : K) : List UInt8 := if isK k then (if k.kind = 2 then [] else Lib.itoa k.n) ++ (if k.kind = 1 then [] else 39 :: k.t) else []
theorem fmtU_good {k : K} (h : isK k = true) : fmtU k = (if k.kind = 2 then [] else Lib.itoa k.n) ++ (if k.kind = 1 then [] else 39 :: k.t) := by unfold fmtU; rw [if_pos h]
/-- What stands ahead of the first '; what stands from there on. -/
def hd (s : List UInt8) : List UInt8 := s.takeWhile (· != 39)
def tl (s : List UInt8) : List UInt8 := s.dropWhile (· != 39)
theorem hd_app (p q : List UInt8) (h : (39 : UInt8) ∉ p) : hd (p ++ 39 :: q) = p := by
  unfold hd
  rw [List.takeWhile_append_of_pos (by intro x hx; simp; exact fun e => h (by rw [← e]; exact hx))]
  simp
theorem tl_app (p q : List UInt8) (h : (39 : UInt8) ∉ p) : tl (p ++ 39 :: q) = 39 :: q := by
  unfold tl
  rw [List.dropWhile_append_of_pos (by intro x hx; simp; exact fun e => h (by rw [← e]; exact hx))]
  simp
theorem hd_all (p : List UInt8) (h : (39 : UInt8) ∉ p) : hd p = p := by
  have := List.takeWhile_append_of_pos (p := (· != 39)) (l₁ := p) (l₂ := []) (by intro x hx; simp; exact fun e => h (by rw [← e]; exact hx))
  simpa [hd] using this
theorem tl_all (p : List UInt8) (h : (39 : UInt8) ∉ p) : tl p = [] := by
  have := List.dropWhile_append_of_pos (p := (· != 39)) (l₁ := p) (l₂ := []) (by intro x hx; simp; exact fun e => h (by rw [← e]; exact hx))
  simpa [tl] using this
/-- A number's text, read. -/
def rdn : List UInt8 → Option Int
  | 45 :: q => if pOk q then some (-(pVal q)) else none
  | q => if pOk q then some (pVal q) else none
theorem num_dec {u : Nat} (h : u ≤ 1000000000000) : Num (Lib.decDigits u) u := ⟨by omega, by omega, by rw [itoa_nonneg (by omega)]; rfl⟩
theorem rdn_itoa {n : Int} (h0 : -1000000000000 ≤ n) (h1 : n ≤ 1000000000000) : rdn (Lib.itoa n) = some n := by
  by_cases hn : n < 0
  · have hm := num_dec (u := n.natAbs) (by omega)
    rw [itoa_neg' hn]
    show (if pOk (Lib.decDigits n.natAbs) then some (-(pVal (Lib.decDigits n.natAbs))) else none) = some n
    rw [hm.ok, hm.val]
    simp
    omega
  · have hm := num_dec (u := n.toNat) (by omega)
    rw [itoa_nonneg (by omega)]
    have hne : ∀ q, Lib.decDigits n.toNat ≠ 45 :: q := fun q e => by
      have := (dec_chars n.toNat 45 (by rw [e]; simp)).1
      revert this; decide
    unfold rdn
    split
    · rename_i q e
      exact absurd e (hne q)
    · rw [hm.ok, hm.val]
      simp
      omega
def candT (s : List UInt8) : Option K :=
  if hd s = [] then some ⟨if tl s = [] then 1 else 2, 0, ⟨(tl s).tail.toArray⟩⟩
  else (rdn (hd s)).map fun n => ⟨if tl s = [] then 1 else 3, n, ⟨(tl s).tail.toArray⟩⟩
/-- ParseKey's answer. -/
def parO (s : List UInt8) : Option K := (candT s).filter fun k => isK k && (fmtU k == s)
theorem par_fmt {k : K} (h : isK k = true) : parO (fmtU k) = some k := by
  have g := isK_iff.1 h
  have k0 := g.k0; have k1 := g.k1
  have hr := rdn_itoa g.n0 g.n1
  have hi := itoa_no39 k.n
  have hin := itoa_ne k.n
  have e : candT (fmtU k) = some k := by
    rw [fmtU_good h]
    unfold candT
    by_cases h1 : k.kind = 1
    · rw [if_pos h1, if_neg (show ¬ k.kind = 2 by omega), List.append_nil, hd_all _ hi, tl_all _ hi, if_neg hin, hr]
      simp only [Option.map_some, if_true]
      congr 1
      exact K.ext' h1.symm rfl (by rw [g.t1 h1]; rfl)
    · rw [if_neg h1]
      by_cases h2 : k.kind = 2
      · rw [if_pos h2, hd_app _ _ (by simp), tl_app _ _ (by simp), if_pos rfl]
        congr 1
        exact K.ext' (by simp [h2]) (g.n2 h2).symm (by simp [K.t])
      · rw [if_neg h2, hd_app _ _ hi, tl_app _ _ hi, if_neg hin, hr]
        simp only [Option.map_some]
        congr 1
        exact K.ext' (by simp; omega) rfl (by simp [K.t])
  unfold parO
  rw [e, Option.filter_some, if_pos (by simp [h])]
theorem par_some {s : List UInt8} {k : K} (h : parO s = some k) : isK k = true ∧ fmtU k = s := by
  unfold parO at h
  rw [Option.filter_eq_some_iff] at h
  simpa using h.2
theorem par_none {s : List UInt8} (h : parO s = none) (k : K) (hk : isK k = true) : fmtU k ≠ s := fun e => by
  rw [← e, par_fmt hk] at h
  cases h
theorem par_unique {s : List UInt8} {o : Option K} (h1 : ∀ k, o = some k → isK k = true ∧ fmtU k = s) (h2 : o = none → ∀ k, isK k = true → fmtU k ≠ s) : o = parO s := by
  cases o with
  | some k =>
    obtain ⟨a, b⟩ := h1 k rfl
    rw [← b, par_fmt a]
  | none =>
    cases h : parO s with
    | none => rfl
    | some k =>
      obtain ⟨a, b⟩ := par_some h
      exact absurd b (h2 rfl k a)
end Go.Proofs.Ytephiilicebdcaa.L4

/-
  The contracts of chapter 4's functions of the specification: l4Text, IsKey, l4Sign, CompareKeys, CompareBytes, InRangeOf. Conditions: a text of at most 2^48 bytes.
-/
namespace Go.Proofs.Ytephiilicebdcaa.L4
set_option maxRecDepth 100000
open Go.ChangeShapes Go.WideShapes Go.ChangeAt Go.RowKit Mem Sl Ex L2
set_option linter.unusedVariables false

def K.v (k : K) : Value := .agg #[.int .i64 k.kind, .int .i64 k.n, .string k.text]
def K.cells (k : K) : Array Value := #[.int .i64 k.kind, .int .i64 k.n, .string k.text]

theorem isT_no {s : List UInt8} (j : Nat) (b : UInt8) (hb : s[j]? = some b) (h : chr b = false) : isT s = false := by
  unfold isT
  rw [Bool.and_eq_false_iff]
  left
  rw [List.all_eq_false]
  exact ⟨b, List.mem_of_getElem? hb, by simp [h]⟩
theorem isT_all {s : List UInt8} (h : ∀ j (hj : j < s.length), chr s[j] = true) : isT s = decide (s.length ≤ 12) := by
  unfold isT
  rw [show s.all chr = true by rw [List.all_eq_true]; intro x hx; obtain ⟨i, hi, rfl⟩ := List.getElem_of_mem hx; exact h i hi, Bool.true_and]

end Go.Proofs.Ytephiilicebdcaa.L4

/-
  The contracts of chapter 4's comparisons of the specification: l4Sign, CompareKeys, CompareBytes, InRangeOf. Conditions: texts of at most 2^48 bytes.
-/
namespace Go.Proofs.Ytephiilicebdcaa.L4
set_option maxRecDepth 100000
open Go.Op (bytesLess)
open Go.ChangeShapes Go.WideShapes Go.ChangeAt Go.RowKit Mem Sl Ex L2
set_option linter.unusedVariables false


/-- A boxed key stands in world w. -/
def Box (w : World) (g : Nat) (t : TypeId) (k : K) : Prop := Row w g t k.cells
theorem Box.facts {w : World} {g : Nat} {t : TypeId} {kd n : Int} {s : ByteArray} (h : Box w g t ⟨kd, n, s⟩) : w.cell? ⟨g, 0, none⟩ = some (.int .i64 kd) ∧ w.cell? ⟨g, 1, none⟩ = some (.int .i64 n) ∧ w.cell? ⟨g, 2, none⟩ = some (.string s) := by
  have h' : Row w g t #[.int .i64 kd, .int .i64 n, .string s] := h
  have c0 := h'.cell 0
  have c1 := h'.cell 1
  have c2 := h'.cell 2
  simp at c0 c1 c2
  exact ⟨c0, c1, c2⟩
theorem Box.below {w w' : World} {g : Nat} {t : TypeId} {k : K} (h : Box w g t k) (hb : Below w.heap.size w w') : Box w' g t k := Row.below h hb (Row.inside h)
theorem Box.made (w : World) (t : TypeId) (k : K) : Box (w.alloc (.cells k.cells t)) w.heap.size t k := Row.made w t k.cells
theorem Box.more {w : World} {g : Nat} {t : TypeId} {k : K} (h : Box w g t k) (o : Obj) : Box (w.alloc o) g t k := Row.more h o

theorem string_gtr (t : TypeId) (a b : ByteArray) : binOp .gtr t (.string a) (.string b) = pure (.bool (!(bytesLess a.toList b.toList) && !(a.toList == b.toList))) := by simp [binOp, Op.stringOp]
theorem cmpK_bad1 {a b : K} (h : isK a = false) : cmpK a b = 0 := by simp [cmpK, h]
theorem cmpK_bad2 {a b : K} (h : isK b = false) : cmpK a b = 0 := by simp [cmpK, h]
theorem cmpK_kind {a b : K} (ha : isK a = true) (hb : isK b = true) (h : ¬ a.kind = b.kind) : cmpK a b = sgn (decide (a.kind < b.kind)) true := by simp [cmpK, ha, hb, h]
theorem cmpK_n {a b : K} (ha : isK a = true) (hb : isK b = true) (h : a.kind = b.kind) (h2 : ¬ a.n = b.n) : cmpK a b = sgn (decide (a.n < b.n)) true := by simp [cmpK, ha, hb, h, h2]
theorem cmpK_t {a b : K} (ha : isK a = true) (hb : isK b = true) (h : a.kind = b.kind) (h2 : a.n = b.n) : cmpK a b = sgn (bytesLess a.text.toList b.text.toList) (!(bytesLess a.text.toList b.text.toList) && !(a.text.toList == b.text.toList)) := by
  rw [ByteArray.toList_eq, ByteArray.toList_eq]
  simp [cmpK, ha, hb, h, h2, cmpL, K.t]

def toU (l : List Int) : List UInt8 := l.map fun n => UInt8.ofNat n.toNat
theorem strOf_toList (l : List Int) : (strOfNums l).toList = toU l := by rw [ByteArray.toList_eq, strOfNums_data]; rfl

/-! ### ranges -/
structure R where
  hl : Bool
  hh : Bool
  lo : K
  hi : K
def R.v (r : R) : Value := .agg #[.bool r.hl, .bool r.hh, .int .i64 r.lo.kind, .int .i64 r.lo.n, .string r.lo.text, .int .i64 r.hi.kind, .int .i64 r.hi.n, .string r.hi.text]
def R.cells (r : R) : Array Value := #[.bool r.hl, .bool r.hh, .int .i64 r.lo.kind, .int .i64 r.lo.n, .string r.lo.text, .int .i64 r.hi.kind, .int .i64 r.hi.n, .string r.hi.text]
def inR (k : K) (r : R) : Bool := isK k && ((!r.hl || isK r.lo) && ((!r.hh || isK r.hi) && ((!r.hl || decide (cmpK r.lo k ≤ 0)) && (!r.hh || decide (cmpK k r.hi ≤ 0)))))
/-- A key and a range stand boxed, and below w nothing has turned. -/
structure St (w wr : World) (kt rt : TypeId) (k : K) (r : R) : Prop where
  k : Row wr w.heap.size kt k.cells
  r : Row wr (w.heap.size + 1) rt r.cells
  b : Below w.heap.size w wr
theorem St.next {w wr w' : World} {kt rt : TypeId} {k : K} {r : R} (h : Hid (St w wr kt rt k r)) (hb : Below wr.heap.size wr w') : Hid (St w w' kt rt k r) :=
  ⟨h.out.k.below hb h.out.k.inside, h.out.r.below hb h.out.r.inside, h.out.b.trans (hb.mono h.out.b.size)⟩
theorem St.facts {w wr : World} {kt rt : TypeId} {kd n : Int} {s : ByteArray} {hl hh : Bool} {ka na : Int} {sa : ByteArray} {kb nb : Int} {sb : ByteArray} (h : Hid (St w wr kt rt ⟨kd, n, s⟩ ⟨hl, hh, ⟨ka, na, sa⟩, ⟨kb, nb, sb⟩⟩)) :
    (wr.cell? ⟨w.heap.size, 0, none⟩ = some (.int .i64 kd) ∧ wr.cell? ⟨w.heap.size, 1, none⟩ = some (.int .i64 n) ∧ wr.cell? ⟨w.heap.size, 2, none⟩ = some (.string s)) ∧
    wr.cell? ⟨w.heap.size + 1, 0, none⟩ = some (.bool hl) ∧ wr.cell? ⟨w.heap.size + 1, 1, none⟩ = some (.bool hh) ∧ wr.cell? ⟨w.heap.size + 1, 2, none⟩ = some (.int .i64 ka) ∧ wr.cell? ⟨w.heap.size + 1, 3, none⟩ = some (.int .i64 na) ∧ wr.cell? ⟨w.heap.size + 1, 4, none⟩ = some (.string sa) ∧ wr.cell? ⟨w.heap.size + 1, 5, none⟩ = some (.int .i64 kb) ∧ wr.cell? ⟨w.heap.size + 1, 6, none⟩ = some (.int .i64 nb) ∧ wr.cell? ⟨w.heap.size + 1, 7, none⟩ = some (.string sb) := by
  have h1 : Row wr w.heap.size kt #[.int .i64 kd, .int .i64 n, .string s] := h.out.k
  have h2 : Row wr (w.heap.size + 1) rt #[.bool hl, .bool hh, .int .i64 ka, .int .i64 na, .string sa, .int .i64 kb, .int .i64 nb, .string sb] := h.out.r
  refine ⟨⟨?_, ?_, ?_⟩, ?_, ?_, ?_, ?_, ?_, ?_, ?_, ?_⟩
  all_goals first | (rw [h1.cell]; rfl) | (rw [h2.cell]; rfl)

end Go.Proofs.Ytephiilicebdcaa.L4

/-
  The contracts of chapter 4's EncodeKey and DecodeKey of the specification. Conditions: a text, a byte string of at most 2^40 bytes.
-/
namespace Go.Proofs.Ytephiilicebdcaa.L4
set_option maxRecDepth 100000
open Go.Op (bytesLess)
open Go.ChangeShapes Go.WideShapes Go.ChangeAt Go.RowKit Mem Sl Ex L2
set_option linter.unusedVariables false

def toI (u : List UInt8) : List Int := u.map fun b => (b.toNat : Int)
@[simp] theorem toI_length (u : List UInt8) : (toI u).length = u.length := by simp [toI]
theorem toI_append (u v : List UInt8) : toI (u ++ v) = toI u ++ toI v := by simp [toI]
theorem toI_toU (l : List Int) (h : Byt l) : toI (toU l) = l := by
  unfold toI toU
  rw [List.map_map]
  have : ∀ x ∈ l, ((fun b : UInt8 => (b.toNat : Int)) ∘ fun n : Int => UInt8.ofNat n.toNat) x = x := fun x hx => by
    have := h x hx
    simp only [Function.comp, UInt8.toNat_ofNat']
    omega
  rw [List.map_congr_left this, List.map_id']
theorem toU_toI (u : List UInt8) : toU (toI u) = u := by
  unfold toI toU
  rw [List.map_map]
  have : ∀ x ∈ u, ((fun n : Int => UInt8.ofNat n.toNat) ∘ fun b : UInt8 => (b.toNat : Int)) x = x := fun x _ => by simp
  rw [List.map_congr_left this, List.map_id']
theorem toI_byt (u : List UInt8) : Byt (toI u) := by
  intro x hx
  obtain ⟨b, _, rfl⟩ := List.mem_map.1 hx
  have := b.toNat_lt
  exact ⟨by omega, by omega⟩
theorem strB_toI (s : ByteArray) : L3.strB s = toI s.data.toList := rfl

theorem and_255 (m : Nat) (h : m < 4611686018427387904) : bits .and .i64 (m : Int) 255 = ((m % 256 : Nat) : Int) := by
  have h1 : (BitVec.ofInt 64 (m : Int) &&& BitVec.ofInt 64 (255 : Int)).toNat = m % 256 := by
    rw [show (255 : Int) = ((255 : Nat) : Int) from rfl, BitVec.ofInt_natCast, BitVec.ofInt_natCast, BitVec.toNat_and, BitVec.toNat_ofNat, BitVec.toNat_ofNat, Nat.mod_eq_of_lt (show m < 2 ^ 64 by omega), show 255 % 2 ^ 64 = 2 ^ 8 - 1 by decide, Nat.and_two_pow_sub_one_eq_mod]
  show IntKind.i64.wrap ((BitVec.ofInt 64 (m : Int) &&& BitVec.ofInt 64 (255 : Int)).toNat : Nat) = _
  rw [h1, IntKind.wrap_i64]
  omega
theorem encU_len (k : K) (h : (k.text.size : Int) ≤ 1048576) : (encU k).length ≤ 1099511627776 := by
  have e : k.t.length = k.text.size := by unfold K.t; rw [Array.length_toList]; rfl
  unfold encU
  split
  · simp only [List.length_cons, List.length_append, num6]
    split <;> simp <;> omega
  · simp
theorem byte_step (m d : Nat) (h : (m : Int) ≤ 2000000000000) : bits .and .i64 ((m : Int) / (d : Int)) 255 % 256 = ((m / d % 256 : Nat) : Int) := by
  have h1 := Nat.div_le_self m d
  rw [show (m : Int) / (d : Int) = ((m / d : Nat) : Int) from rfl, and_255 _ (by omega)]
  omega
theorem be_get (k m i : Nat) (h : i < k) : (be k m)[i]'(by simpa using h) = UInt8.ofNat (m / 256 ^ (k - 1 - i) % 256) := by
  induction k generalizing i with
  | zero => omega
  | succ k ih =>
    cases i with
    | zero => simp [be]
    | succ i =>
      have := ih i (by omega)
      simp only [be, List.getElem_cons_succ, this]
      congr 4
      omega
theorem six_step (m j : Nat) (h : 1 ≤ j) (h6 : j ≤ 6) : toI ((be 6 m).take (6 - (j - 1))) = toI ((be 6 m).take (6 - j)) ++ [((m / 256 ^ (j - 1) % 256 : Nat) : Int)] := by
  rw [show 6 - (j - 1) = (6 - j) + 1 by omega, List.take_succ_eq_append_getElem (by simp; omega), toI_append, be_get 6 m (6 - j) (by omega)]
  congr 1
  simp only [toI, List.map_cons, List.map_nil, UInt8.toNat_ofNat']
  rw [show 6 - 1 - (6 - j) = j - 1 by omega]
  congr 2
  omega

end Go.Proofs.Ytephiilicebdcaa.L4

/-
  The contract of chapter 4's DecodeKey of the specification. Condition: a byte string of at most 2^40 bytes.
-/
namespace Go.Proofs.Ytephiilicebdcaa.L4
set_option maxRecDepth 100000
open Go.Op (bytesLess)
open Go.ChangeShapes Go.WideShapes Go.ChangeAt Go.RowKit Mem Sl Ex L2
set_option linter.unusedVariables false

def oK (o : Option K) : K := o.getD K.zero
def decK (l : List Int) : K := oK (decO (toU l))
def decB (l : List Int) : Bool := (decO (toU l)).isSome
theorem dec_no {l : List Int} (h : decO (toU l) = none) : decK l = K.zero ∧ decB l = false := by unfold decK decB oK; rw [h]; exact ⟨rfl, rfl⟩
theorem dec_yes {l : List Int} {k : K} (h : decO (toU l) = some k) : decK l = k ∧ decB l = true := by unfold decK decB oK; rw [h]; exact ⟨rfl, rfl⟩
theorem dec_is {l : List Int} {k : K} (h : cand (toU l) = some k) : decO (toU l) = if isK k then some k else none := by
  unfold decO
  rw [h, Option.filter_some]
/-- DecodeKey's two results. -/
def DkE (l : List Int) : Ending := .returned (.tuple #[(decK l).v, .bool (decB l)])
theorem toU_cons (x : Int) (r : List Int) : toU (x :: r) = UInt8.ofNat x.toNat :: toU r := rfl
@[simp] theorem toU_length (l : List Int) : (toU l).length = l.length := by simp [toU]
theorem cand_short {x : Int} {r : List Int} (hx : 0 ≤ x ∧ x ≤ 255) (h : ¬ x = 2) (hr : r.length < 6) : cand (toU (x :: r)) = none := by
  rw [toU_cons]
  show (if (UInt8.ofNat x.toNat).toNat = 2 then _ else if (toU r).length < 6 then none else _) = none
  rw [UInt8.toNat_ofNat', if_neg (by omega), if_pos (by simpa using hr)]
theorem cand_text {r : List Int} : cand (toU (2 :: r)) = some ⟨2, 0, strOfNums r⟩ := by
  show some (⟨2, 0, ⟨(toU r).toArray⟩⟩ : K) = _
  congr 1
theorem cand_num {x : Int} {r : List Int} (hx : 0 ≤ x ∧ x ≤ 255) (h : ¬ x = 2) (hr : 6 ≤ r.length) : cand (toU (x :: r)) = some ⟨x, (val ((toU r).take 6) : Int) - 1000000000000, strOfNums (r.drop 6)⟩ := by
  rw [toU_cons]
  show (if (UInt8.ofNat x.toNat).toNat = 2 then _ else if (toU r).length < 6 then none else some (⟨(UInt8.ofNat x.toNat).toNat, (val ((toU r).take 6) : Int) - 1000000000000, ⟨((toU r).drop 6).toArray⟩⟩ : K)) = _
  rw [UInt8.toNat_ofNat', if_neg (by omega), if_neg (by simp; omega)]
  congr 1
  refine K.ext' (by show ((x.toNat % 2 ^ 8 : Nat) : Int) = x; omega) rfl ?_
  simp only [K.t, strOfNums_data]
  simp [toU]
theorem or_byte (m : Nat) (x : Int) (h0 : 0 ≤ x) (h1 : x ≤ 255) (hm : (m : Int) ≤ 1099511627776) : bits .or .i64 ((m : Int) * 256) x = (m : Int) * 256 + x := by
  obtain ⟨y, rfl⟩ : ∃ y : Nat, x = y := ⟨x.toNat, by omega⟩
  have h2 : (BitVec.ofInt 64 ((m : Int) * 256) ||| BitVec.ofInt 64 (y : Int)).toNat = m * 256 + y := by
    rw [show (m : Int) * 256 = ((m * 256 : Nat) : Int) by omega, BitVec.ofInt_natCast, BitVec.ofInt_natCast, BitVec.toNat_or, BitVec.toNat_ofNat, BitVec.toNat_ofNat, Nat.mod_eq_of_lt (show m * 256 < 2 ^ 64 by omega), Nat.mod_eq_of_lt (show y < 2 ^ 64 by omega)]
    rw [Nat.mul_comm m 256, show (256 : Nat) = 2 ^ 8 by decide, Nat.two_pow_add_eq_or_of_lt (by omega)]
  show IntKind.i64.wrap ((BitVec.ofInt 64 ((m : Int) * 256) ||| BitVec.ofInt 64 (y : Int)).toNat : Nat) = _
  rw [h2, IntKind.wrap_i64]
  omega

theorem Row.facts3 {w : World} {g : Nat} {t : TypeId} {x y z : Value} (h : Row w g t #[x, y, z]) : w.cell? ⟨g, 0, none⟩ = some x ∧ w.cell? ⟨g, 1, none⟩ = some y ∧ w.cell? ⟨g, 2, none⟩ = some z ∧ w.frozen? ⟨g, 0, none⟩ = false ∧ w.frozen? ⟨g, 1, none⟩ = false ∧ w.frozen? ⟨g, 2, none⟩ = false := by
  refine ⟨?_, ?_, ?_, h.free 0, h.free 1, h.free 2⟩ <;> (rw [h.cell]; rfl)
/-- The zero key's cell and the key's cell stand, and below w nothing has turned. -/
structure Two (w wr : World) (t : TypeId) (k : K) : Prop where
  z : Row wr w.heap.size t #[.int .i64 0, .int .i64 0, .string ⟨#[]⟩]
  k : Row wr (w.heap.size + 1) t k.cells
  b : Below w.heap.size w wr
theorem Two.made (w : World) (t : TypeId) (k : K) : Two w ((w.alloc (.cells #[.int .i64 0, .int .i64 0, .string ⟨#[]⟩] t)).alloc (.cells k.cells t)) t k := by
  refine ⟨(Row.made w t _).more _, ?_, below_alloc (below_alloc (Below.refl _ _) _ (Nat.le_refl _)) _ (Nat.le_refl _)⟩
  rw [show w.heap.size + 1 = (w.alloc (.cells #[.int .i64 0, .int .i64 0, .string ⟨#[]⟩] t)).heap.size by simp]
  exact Row.made _ _ _
theorem Two.next {w wr w' : World} {t : TypeId} {k : K} (h : Two w wr t k) (hb : Below wr.heap.size wr w') : Two w w' t k :=
  ⟨h.z.below hb h.z.inside, h.k.below hb h.k.inside, h.b.trans (hb.mono h.b.size)⟩

end Go.Proofs.Ytephiilicebdcaa.L4

/-
  The exact laws' helpers for keys and ranges: toKey, szKey, eqKey, toKeyRange, szKeyRange. Condition: a room of at most 2^20.
-/
namespace Go.Proofs.Ytephiilicebdcaa.L4
set_option maxRecDepth 100000
open Go.ChangeShapes Go.WideShapes Go.ChangeAt Go.RowKit Mem Sl Ex L2
set_option linter.unusedVariables false

/-- What is left of a room behind a text; -1 if there is none. -/
def left (n : Int) (s : ByteArray) : Int := if n - s.size < 0 then -1 else n - s.size

def R.left (n : Int) (r : R) : Int := if L4.left n r.lo.text < 0 then -1 else L4.left (L4.left n r.lo.text) r.hi.text
theorem left_range (n : Int) (s : ByteArray) (h : n ≤ 1048576) : -1 ≤ left n s ∧ left n s ≤ 1048576 := by unfold left; split <;> omega
theorem Row.cells8 {w : World} {g : Nat} {t : TypeId} {a0 a1 a2 a3 a4 a5 a6 a7 : Value} (h : Row w g t #[a0, a1, a2, a3, a4, a5, a6, a7]) : w.cell? ⟨g, 0, none⟩ = some a0 ∧ w.cell? ⟨g, 1, none⟩ = some a1 ∧ w.cell? ⟨g, 2, none⟩ = some a2 ∧ w.cell? ⟨g, 3, none⟩ = some a3 ∧ w.cell? ⟨g, 4, none⟩ = some a4 ∧ w.cell? ⟨g, 5, none⟩ = some a5 ∧ w.cell? ⟨g, 6, none⟩ = some a6 ∧ w.cell? ⟨g, 7, none⟩ = some a7 := by
  refine ⟨?_, ?_, ?_, ?_, ?_, ?_, ?_, ?_⟩ <;> (rw [h.cell]; rfl)
/-- The range that came in, the result's cell and the variable stand; below w nothing has turned. -/
structure Tri (w wr : World) (t u : TypeId) (r : R) (x : Array Value) : Prop where
  r : Row wr w.heap.size t r.cells
  z : Row wr (w.heap.size + 1) u #[.bool false, .bool false, .int .i64 0, .int .i64 0, .string ⟨#[]⟩, .int .i64 0, .int .i64 0, .string ⟨#[]⟩]
  x : Row wr (w.heap.size + 1 + 1) u x
  b : Below w.heap.size w wr
theorem Tri.next {w wr w' : World} {t u : TypeId} {r : R} {x : Array Value} (h : Hid (Tri w wr t u r x)) (hb : Below wr.heap.size wr w') : Hid (Tri w w' t u r x) :=
  ⟨h.out.r.below hb h.out.r.inside, h.out.z.below hb h.out.z.inside, h.out.x.below hb h.out.x.inside, h.out.b.trans (hb.mono h.out.b.size)⟩
theorem Row.apart {w : World} {g g' : Nat} {t : TypeId} {cs : Array Value} (h : Row w g t cs) (i : Nat) (v : Value) (hne : g ≠ g') : Row (w.setCell ⟨g', i, none⟩ v) g t cs := (Below.heap_setCell w ⟨g', i, none⟩ v g hne).trans h
theorem Tri.put {w wr : World} {t u : TypeId} {r : R} {x : Array Value} (h : Hid (Tri w wr t u r x)) (i : Nat) (v : Value) : Hid (Tri w (wr.setCell ⟨w.heap.size + 1 + 1, i, none⟩ v) t u r (x.setIfInBounds i v)) :=
  ⟨Row.apart h.out.r i v (by omega), Row.apart h.out.z i v (by omega), h.out.x.put i v, h.out.b.setCell (by show w.heap.size ≤ w.heap.size + 1 + 1; omega) v⟩
end Go.Proofs.Ytephiilicebdcaa.L4

/-
  How chapter 4's arguments open: a key and a range by value. No condition but the form's own reach.
-/
namespace Go.Proofs.Ytephiilicebdcaa.L4
set_option maxRecDepth 100000
open Go.ChangeShapes Go.WideShapes Go.ChangeAt Go.RowKit Mem Sl Ex L2

section
variable {H : Type} {enc : TypeId × Value → H} {W : World} {b : Nat} {sp : Nat → Bool} {hd : Bool}
theorem two_63 : maxLen = 9223372036854775807 := rfl
end

/-! ### a boxed value as one of several things that lie apart -/
def boxR (g : Nat) (t : TypeId) (cs : Array Value) : Res where
  fp := [g]
  is w := Row w g t cs
  loc := fun hs h => (hs g (by simp)).trans h
theorem push_box {W w : World} {rs : List Res} (h : Sep W w rs) (t : TypeId) (cs : Array Value) (g : Nat) (hg : g = w.heap.size) : Sep W (w.alloc (.cells cs t)) (rs ++ [boxR g t cs]) := by
  subst hg
  exact h.push ((Below.refl _ _).alloc (Nat.le_refl _) _) (Row.made w t cs) (fun b hb => by simp [boxR] at hb; subst hb; exact ⟨Nat.le_refl _, by simp⟩)
theorem box_at {W w : World} {rs : List Res} {g : Nat} {t : TypeId} {cs : Array Value} (h : Sep W w rs) (i : Nat) (hi : rs[i]? = some (boxR g t cs)) : Row w g t cs := h.is i _ hi
theorem box3 {W w : World} {rs : List Res} {g : Nat} {t : TypeId} {x y z : Value} (h : Sep W w rs) (i : Nat) (hi : rs[i]? = some (boxR g t #[x, y, z])) : w.cell? ⟨g, 0, none⟩ = some x ∧ w.cell? ⟨g, 1, none⟩ = some y ∧ w.cell? ⟨g, 2, none⟩ = some z := by
  have h' := box_at h i hi
  refine ⟨?_, ?_, ?_⟩ <;> (rw [h'.cell]; rfl)
theorem box8 {W w : World} {rs : List Res} {g : Nat} {t : TypeId} {a0 a1 a2 a3 a4 a5 a6 a7 : Value} (h : Sep W w rs) (i : Nat) (hi : rs[i]? = some (boxR g t #[a0, a1, a2, a3, a4, a5, a6, a7])) : w.cell? ⟨g, 0, none⟩ = some a0 ∧ w.cell? ⟨g, 1, none⟩ = some a1 ∧ w.cell? ⟨g, 2, none⟩ = some a2 ∧ w.cell? ⟨g, 3, none⟩ = some a3 ∧ w.cell? ⟨g, 4, none⟩ = some a4 ∧ w.cell? ⟨g, 5, none⟩ = some a5 ∧ w.cell? ⟨g, 6, none⟩ = some a6 ∧ w.cell? ⟨g, 7, none⟩ = some a7 := Row.cells8 (box_at h i hi)
theorem keep_drew {W w w' : World} {rs : List Res} (h : Sep W w rs) (hb : Below w.drew.heap.size w.drew w') : Sep W w' rs := (h.drews 1).keep hb
theorem rleft_small {n : Int} {r : R} (h : ¬ R.left n r < 0) : (r.lo.text.size : Int) ≤ n ∧ (r.hi.text.size : Int) ≤ n := by
  unfold R.left at h
  split at h
  · omega
  · rename_i h1
    have h2 : ¬ left n r.lo.text < 0 := h1
    have e1 : left n r.lo.text = n - r.lo.text.size ∧ (r.lo.text.size : Int) ≤ n := by
      unfold left at h2 ⊢
      split at h2
      · omega
      · rename_i h3
        rw [if_neg h3]
        omega
    rw [e1.1] at h
    unfold left at h
    split at h <;> omega
theorem rleft_range (n : Int) (r : R) (h : n ≤ 1048576) : -1 ≤ R.left n r ∧ R.left n r ≤ 1048576 := by
  unfold R.left
  split
  · omega
  · exact left_range _ _ (left_range n _ h).2
theorem left_small {n : Int} {s : ByteArray} (h : ¬ left n s < 0) : left n s = n - s.size ∧ (s.size : Int) ≤ n := by
  unfold left at h ⊢
  split at h
  · omega
  · rename_i h2
    rw [if_neg h2]
    omega
end Go.Proofs.Ytephiilicebdcaa.L4

/-
  The contract of chapter 4's isLetter of the program (over any seat). No condition.
-/
namespace Go.Proofs.Ytephiilicebdcaa.L4
set_option maxRecDepth 100000
open Go.ChangeShapes Go.WideShapes Go.ChangeAt Go.RowKit Mem Sl Ex L2
set_option linter.unusedVariables false
def isLet (c : UInt8) : Bool := decide (97 ≤ c.toNat) && decide (c.toNat ≤ 122)
theorem isLetter_any (c : UInt8) (w : World) :
    Calls Try.prog 70 #[.int .u8 c.toNat] w fun e w' => e = .returned (.bool (isLet c)) ∧ w = w' := by
  by_cases h1 : (97 : Int) ≤ c.toNat <;> by_cases h2 : (c.toNat : Int) ≤ 122 <;>
    (go_enter Try.func70, Try.ntmps70
     go_wp2
     go_ret
     exact ⟨L1.ret_bool (by unfold isLet; have h1' := h1; have h2' := h2; simp only [Bool.false_eq, Bool.true_eq, Bool.and_eq_false_iff, Bool.and_eq_true, decide_eq_false_iff_not, decide_eq_true_eq]; omega), rfl⟩)
end Go.Proofs.Ytephiilicebdcaa.L4

/-
  A region that draws its order, walked by hand: an operation is taken first, is skipped, or is the only one that may come up; each is found in the region's list by plain recursion, so that it stands written out. No condition.
-/
namespace Go.Proofs.Ytephiilicebdcaa.Reg
set_option maxRecDepth 100000
/-- Element number i of a list. -/
def nthO {α : Type} : Nat → List α → Option α
  | _, [] => none
  | 0, x :: _ => some x
  | i + 1, _ :: l => nthO i l
theorem nthO_eq {α : Type} : ∀ (l : List α) (i : Nat), l.toArray[i]? = nthO i l
  | [], i => by simp [nthO]
  | x :: l, 0 => by simp [nthO]
  | x :: l, i + 1 => by
    have := nthO_eq l i
    simp only [List.getElem?_toArray, List.getElem?_cons_succ] at this ⊢
    exact this
section
variable {P : Program} {l : List Oper} {Q : Exit → Act → World → Prop} {md : Region.Mode} {S : World → Prop} {fuel i : Nat} {oi : Oper} {v : Value} {listed : Array Bool} {a : Act} {w : World}
theorem take_op (hi : nthO i l = some oi) (hs : Region.noSelect l.toArray = true) (hf : Region.free md l.toArray listed i = true) (hr : (Region.ready md l.toArray listed).contains i = true)
    (hQ : ∀ c a w, Q (.panic c) (a.put oi.dst v) w → Q (.panic c) a w) (hw : Region.wanted oi (yielded l.toArray a.tmps) = true) (hy : ∀ w, S w → (execOp a.eval oi).run P w = .ok (.value v) w) (hS : S w)
    (h : wpAnyH P md l.toArray Q S fuel (listed.setIfInBounds i true) (a.put oi.dst v) w) : wpAnyH P md l.toArray Q S (fuel + 1) listed a w :=
  wpAnyH_take (by rw [nthO_eq]; exact hi) hs hf hr hQ (.inl ⟨hw, hy⟩) hS h
theorem skip_op (hi : nthO i l = some oi) (hs : Region.noSelect l.toArray = true) (hf : Region.free md l.toArray listed i = true) (hr : (Region.ready md l.toArray listed).contains i = true)
    (hQ : ∀ c a w, Q (.panic c) (a.put oi.dst undef) w → Q (.panic c) a w) (hw : Region.wanted oi (yielded l.toArray a.tmps) = false) (hS : S w)
    (h : wpAnyH P md l.toArray Q S fuel (listed.setIfInBounds i true) (a.put oi.dst undef) w) : wpAnyH P md l.toArray Q S (fuel + 1) listed a w :=
  wpAnyH_take (by rw [nthO_eq]; exact hi) hs hf hr hQ (.inr ⟨hw, rfl⟩) hS h
theorem one_op (hi : nthO i l = some oi) (hr : Region.ready md l.toArray listed = [i])
    (h : ∀ K' : Act → World → Prop, Shut (∀ a w, S w → (S w → wpAnyH P md l.toArray Q S fuel (listed.setIfInBounds i true) a w) → K' a w) → if Region.wanted oi (yielded l.toArray a.tmps) = true then Oper.wp P oi a w K' Q else K' (a.put oi.dst undef) w) :
    wpAnyH P md l.toArray Q S (fuel + 1) listed a w :=
  wpAnyH_ready hr (by simp) (AllReadyH.cons (by rw [nthO_eq]; exact hi) h AllReadyH.nil)
theorem cons_op {rs : List Nat} (hi : nthO i l = some oi)
    (h : ∀ K' : Act → World → Prop, Shut (∀ a w, S w → (S w → wpAnyH P md l.toArray Q S fuel (listed.setIfInBounds i true) a w) → K' a w) → if Region.wanted oi (yielded l.toArray a.tmps) = true then Oper.wp P oi a w K' Q else K' (a.put oi.dst undef) w)
    (hs : AllReadyH P md l.toArray Q S fuel listed a w rs) : AllReadyH P md l.toArray Q S fuel listed a w (i :: rs) := AllReadyH.cons (by rw [nthO_eq]; exact hi) h hs
theorem skip_one (hi : nthO i l = some oi) (hr : Region.ready md l.toArray listed = [i]) (hw : Region.wanted oi (yielded l.toArray a.tmps) = false) (hS : S w)
    (h : wpAnyH P md l.toArray Q S fuel (listed.setIfInBounds i true) (a.put oi.dst undef) w) : wpAnyH P md l.toArray Q S (fuel + 1) listed a w :=
  wpAnyH_all hr (by simp) (fun j hj => by
    obtain rfl := List.mem_singleton.1 hj
    unfold wpOp
    have hi' : l.toArray[j]? = some oi := by rw [nthO_eq]; exact hi
    rw [hi']
    simp only [hw]
    exact ⟨hS, h⟩)
end
end Go.Proofs.Ytephiilicebdcaa.Reg

/-
  The contracts of chapter 3's cipher: Encrypt and Decrypt, of the program (by its key stream, a closure) and of the specification. Conditions: the slice reads as a list of at most 10^9 bytes.
-/
namespace Go.Proofs.Ytephiilicebdcaa.L3
set_option maxRecDepth 100000
open Go.ChangeShapes Go.WideShapes Go.ChangeAt Go.RowKit Mem Sl Ex L2
set_option linter.unusedVariables false


theorem own_keep {w w' : World} {B n : Nat} {e : TypeId} {v : Value} {xs : List Value} (h : w.ownsRow B e 1 v n xs) (hb : Below w.heap.size w w') : w'.ownsRow B e 1 v n xs := by
  refine ⟨h.1, ?_⟩
  rcases h.2 with hv | ⟨g, cap, cur, hv, hB, hg, r⟩
  · exact .inl hv
  · exact .inr ⟨g, cap, cur, hv, hB, (hb.block g (Array.getElem?_eq_some_iff.1 hg).1).trans hg, r⟩

theorem lt_of_cell {w : World} {p : Addr} {v : Value} (h : w.cell? p = some v) : p.block < w.heap.size := by
  by_cases hlt : p.block < w.heap.size
  · exact hlt
  · unfold World.cell? at h
    rw [Array.getElem?_eq_none (by omega)] at h
    simp at h
theorem Own.base_row {w : World} {B B' n : Nat} {e : TypeId} {v : Value} {xs : List Value} (h : w.ownsRow B e 1 v n xs) (hB : B' ≤ B) : w.ownsRow B' e 1 v n xs := by
  refine ⟨h.1, ?_⟩
  rcases h.2 with hv | ⟨g, cap, cur, hv, hb, r⟩
  · exact .inl hv
  · exact .inr ⟨g, cap, cur, hv, by omega, r⟩


theorem app_below {w w' : World} {B n : Nat} {e : TypeId} {v : Value} {xs : List Value} (h : w.ownsRow B e 1 v n xs) (hg : w.grownBy w' v.ownBlock) (hB : B ≤ w.heap.size) : Below B w w' := (Below.refl _ _).grown hg hB (fun k hk => (h.lt k hk).1)
theorem enc_go (key x y : Int) (k : Nat) (hx : 0 ≤ x ∧ x ≤ 255) (hy : 0 ≤ y ∧ y < 2147483647) (e : kh key [(k : Int)] = y) :
    IntKind.u8.wrap ((IntKind.i64.wrap (IntKind.i64.wrap x + y.tmod 256)).tmod 256) = encB key k x := by
  unfold encB
  rw [e, IntWalk.i64_in x (by omega), IntWalk.rem_in y 256 (by omega), IntWalk.i64_in _ (by omega), IntWalk.rem_in _ 256 (by omega), IntWalk.u8_in _ (by omega)]
theorem dec_go (key x y : Int) (k : Nat) (hx : 0 ≤ x ∧ x ≤ 255) (hy : 0 ≤ y ∧ y < 2147483647) (e : kh key [(k : Int)] = y) :
    L1.modV (IntKind.i64.wrap (IntKind.i64.wrap x - y.tmod 256)) 256 = decB key k x := by
  unfold decB L1.modV
  rw [if_pos (L1.inB_true.mpr ⟨by omega, by omega⟩), e, IntWalk.i64_in x (by omega), IntWalk.rem_in y 256 (by omega), IntWalk.i64_in _ (by omega)]
end Go.Proofs.Ytephiilicebdcaa.L3

/-
  Chapter 3's draws over several owned things that lie apart: a string of a list, l3Word, l3Words, DrawKeyedHash, DrawEncrypt, DrawDeriveFromString. No condition but that the code is a slice of bytes of at most 2^62 places.
-/
namespace Go.Proofs.Ytephiilicebdcaa.Sd
set_option maxRecDepth 100000
open Go.ChangeShapes Go.WideShapes Go.ChangeAt Go.RowKit Mem Sl Ex Draw L2

theorem info64s : (Try.prog.info? 3).map (fun i => (i.zero, i.size, i.bytes)) = some (some (.int .i64 0), 1, 8) := by kernel_rfl
theorem mul_word {x y : Int} (h0 : 0 ≤ x) (h1 : x < 1000000) (h2 : 0 ≤ y) (h3 : y < 2000) : -1 ≤ wrap64 (x * y) ∧ wrap64 (x * y) ≤ 2147483648 := by
  have a := Int.mul_nonneg h0 h2
  have b : x * y ≤ 999999 * 1999 := Int.mul_le_mul (by omega) (by omega) h2 (by decide)
  rw [← IntWalk.i64_left, IntWalk.i64_in _ ⟨by omega, by omega⟩]
  omega
/-- wpList_append_sep at an operation that a '&&' or '||' guards: the guard is met. -/
theorem wpList_append_sepg {P : Program} (w : World) {ops : Array Oper} {rest : List Oper} {o : Oper} {act : Act} {Q : Exit → Act → World → Prop} (hgd : Region.wanted o (yielded ops act.tmps) = true) (s x : Operand) (t : TypeId)
    (ho : o.op = .call { callee := .builtin .append, args := #[s, x], argTypes := #[t, t] })
    (e : TypeId) (i : TypeInfo) (z : Value) (bytes : Nat) (ht : P.underlying t = some (.slice e)) (hi : P.info? e = some i) (hz : i.zero = some z)
    (hsize : i.size = 1) (hby : i.bytes = bytes) (hzs : z.cells.size = 1) (k : IntKind) (a : Option Addr) (n c : Nat) (l : List Int) (hs : act.eval s = .slice a n c) (hn : n = l.length)
    (W : World) (rs : List Res) (hS : Sep W w rs) (ix : Nat) (hix : rs[ix]? = some (own e k a c l))
    (B' : Nat) (A : Option Addr) (n' c' : Nat) (m : List Int) (hx : act.eval x = .slice A n' c') (hn' : n' = m.length) (hr : Reads w B' A (ints k m))
    (h63 : l.length + m.length ≤ maxLen) (hbytes : (l.length + m.length) * bytes ≤ 140737488355328)
    (h : ∀ a1 c1 w', Sep W w' (rs.set ix (own e k a1 c1 (l ++ m))) → wpList P ops Q rest (act.put o.dst (.slice a1 (l.length + m.length) c1)) w') : wpList P ops Q (o :: rest) act w := by
  subst hn
  subst hn'
  refine wpList_step fun K hK => ?_
  rw [if_pos hgd]
  obtain ⟨a1, c1, w', hrun, h2, h3, h4⟩ := run_append_own (P := P) w W.heap.size t o.type e i z bytes ht hi hz hsize hby hzs k a c l (hS.ownAt ix hix) B' A c' m hr h63 hbytes hS.old.size
  unfold Oper.wp execOp
  simp only [ho, resolve, invoke, builtin, Sem.run_bind, Sem.run_pure, Result.andThen_ok, List.map_toArray, List.map_cons, List.map_nil, hs, hx, hrun]
  refine hK _ _ (h a1 c1 w' (put_new hS ix hix (Turned.of_grown h3) (h2.base (Nat.zero_le _)) fun b hb => ?_))
  have hb' : (Value.slice a1 (l ++ m).length c1).ownBlock = some b := by simpa [own] using hb
  rcases h4 with h5 | h5
  · left
    have : (Value.slice a l.length c).ownBlock = some b := by rw [← h5]; exact hb'
    simpa [own] using this
  · right
    rw [hb'] at h5
    have hbe : b = w.heap.size := Option.some.inj h5
    have := h2.lt b (by simpa using hb')
    exact ⟨by omega, this.2⟩
/-- A list of one that was just laid is an owned thing. -/
theorem push_lit {W w : World} {rs : List Res} (h : Sep W w rs) (e : TypeId) (k : IntKind) (x : Int) : Sep W (w.alloc (.cells #[.int k x] e)) (rs ++ [own e k (some ⟨w.heap.size, 0, none⟩) 1 [x]]) :=
  h.pushOwn ((Below.refl _ _).alloc (Nat.le_refl _) _) (L3.own_lit w e k [x] (Nat.le_refl _) (by simp [maxLen]))
section
variable {W w : World} {rs : List Res} {e : TypeId} {k : IntKind} {g c : Nat} {l : List Int}
theorem cell_s (h : Sep W w rs) (j : Nat) (hj : rs[j]? = some (own e k (some ⟨g, 0, none⟩) c l)) (i : Nat) (hi : i < l.length) : w.cell? ⟨g, i, none⟩ = some (.int k l[i]) ∧ w.frozen? ⟨g, i, none⟩ = false := by
  have ho : w.ownsRow 0 e 1 (.slice (some ⟨g, 0, none⟩) l.length c) l.length (ints k l) := h.own j hj
  have h1 := ho.cellAt i (by omega)
  rw [List.getElem?_eq_getElem (by simpa using hi), ints_get k l i hi] at h1
  exact ⟨h1, ho.frozenAt i⟩
/-- A store into one cell of an owned row. -/
theorem set_s (h : Sep W w rs) (j : Nat) (hj : rs[j]? = some (own e k (some ⟨g, 0, none⟩) c l)) (i : Nat) (v : Int) : Sep W (w.setCell ⟨g, i, none⟩ (.int k v)) (rs.set j (own e k (some ⟨g, 0, none⟩) c (l.set i v))) := by
  have ho : w.ownsRow 0 e 1 (.slice (some ⟨g, 0, none⟩) l.length c) l.length (ints k l) := h.own j hj
  obtain ⟨h1, h2⟩ := ho.stored i (.int k v)
  have h3 : Own (w.setCell ⟨g, i, none⟩ (.int k v)) 0 e k (some ⟨g, 0, none⟩) c (l.set i v) := by
    unfold Own
    rw [List.length_set, show ints k (l.set i v) = (ints k l).set i (.int k v) by unfold ints; rw [List.map_set]]
    exact h1
  exact h.put j hj (Turned.of_grown h2) h3 (fun b hb => by simpa [own, Value.ownBlock] using hb)
end

section
variable {W w : World} {rs : List Res} {c : Nat}
/-- A string of a list that was just laid. -/
theorem str_s (h : Sep W w rs) (i : Nat) (hi : rs[i]? = some (curR W c)) (l : List ByteArray) (P : ByteArray → Prop) (hP : ∀ v ∈ l, P v) (n : Nat) (hn : n = l.length) (h1 : 1 ≤ n) (h2 : n ≤ 1000) :
    Calls Try.prog 31 #[.pointer (some ⟨c, 0, none⟩), .slice (some ⟨w.heap.size, 0, none⟩) n n] (w.alloc (.cells (l.map Value.string).toArray 9)) fun e w' => ∃ s, e = .returned (.string s) ∧ P s ∧ Sep W w' rs := by
  subst hn
  exact (l1Str_on w.heap.size l.length h1 h2 (strs_lit w 9 l P hP) (by simp) (fun e => by have := (cur_on h i hi).lt; omega) (cur_on (h.alloc _) i hi)).mono fun _ _ ⟨s, he, hs, ho⟩ => ⟨s, he, hs, moved (h.alloc _) i hi ho⟩
def Words (l : List Int) : Prop := ∀ x ∈ l, -1 ≤ x ∧ x ≤ 2147483648
theorem Words.snoc {l : List Int} {x : Int} (h : Words l) (h0 : -1 ≤ x ∧ x ≤ 2147483648) : Words (l ++ [x]) := fun y hy => by
  rcases List.mem_append.1 hy with h2 | h2
  · exact h y h2
  · simp at h2; subst h2; exact h0
end

section
variable {W w : World} {rs : List Res} {a : Option Addr} {len : Nat}
end
end Go.Proofs.Ytephiilicebdcaa.Sd

/-
  Chapter 4's draws over several things that lie apart: l4Number, l4Key, l4Any, l4Small and what draws them. No condition but that the code is a slice of bytes of at most 2^62 places.
-/
namespace Go.Proofs.Ytephiilicebdcaa.Sd
set_option maxRecDepth 100000
open Go.ChangeShapes Go.WideShapes Go.ChangeAt Go.RowKit Mem Sl Ex Draw L2 L4
set_option linter.unusedVariables false

section
variable {W w : World} {rs : List Res} {g : Nat} {t : TypeId} {cs : Array Value}
theorem put_box (h : Sep W w rs) (i : Nat) (hi : rs[i]? = some (boxR g t cs)) (j : Nat) (v : Value) : Sep W (w.setCell ⟨g, j, none⟩ v) (rs.set i (boxR g t (cs.setIfInBounds j v))) :=
  h.put i hi (Turned.of_grown (grownBy_put w g j v)) ((box_at h i hi).put j v) (fun b hb => hb)
theorem box_end (h : Sep W w (rs ++ [boxR g t cs])) (x y z : Value) : Sep W (((w.setCell ⟨g, 0, none⟩ x).setCell ⟨g, 1, none⟩ y).setCell ⟨g, 2, none⟩ z) rs := by
  have h1 := put_box h rs.length (at_last _ _) 0 x
  rw [set_last] at h1
  have h2 := put_box h1 rs.length (at_last _ _) 1 y
  rw [set_last] at h2
  have h3 := put_box h2 rs.length (at_last _ _) 2 z
  rw [set_last] at h3
  have h4 := drop (ts := []) h3
  rwa [List.append_nil] at h4
theorem box_facts {x y z : Value} (h : Sep W w (rs ++ [boxR g t #[x, y, z]])) : w.cell? ⟨g, 0, none⟩ = some x ∧ w.cell? ⟨g, 1, none⟩ = some y ∧ w.cell? ⟨g, 2, none⟩ = some z ∧ w.frozen? ⟨g, 0, none⟩ = false ∧ w.frozen? ⟨g, 1, none⟩ = false ∧ w.frozen? ⟨g, 2, none⟩ = false := Row.facts3 (box_at h rs.length (at_last _ _))
end

theorem good1 {n : Int} (h0 : -1000000000000 ≤ n) (h1 : n ≤ 1000000000000) : L4.Good ⟨1, n, ⟨#[]⟩⟩ := ⟨by show (1 : Int) ≤ 1; decide, by show (1 : Int) ≤ 3; decide, h0, h1, by intro h; simp at h, rfl, fun _ => rfl⟩
theorem good2 {s : ByteArray} (h : isT s.data.toList = true) : L4.Good ⟨2, 0, s⟩ := ⟨by show (1 : Int) ≤ 2; decide, by show (2 : Int) ≤ 3; decide, by show (-1000000000000 : Int) ≤ 0; decide, by show (0 : Int) ≤ 1000000000000; decide, fun _ => rfl, h, by intro h; simp at h⟩
theorem good3 {n : Int} {s : ByteArray} (h0 : -1000000000000 ≤ n) (h1 : n ≤ 1000000000000) (h : isT s.data.toList = true) : L4.Good ⟨3, n, s⟩ := ⟨by show (1 : Int) ≤ 3; decide, by show (3 : Int) ≤ 3; decide, h0, h1, by intro h; simp at h, h, by intro h; simp at h⟩
theorem two_facts {W w : World} {rs : List Res} {g g2 : Nat} {t t2 : TypeId} {x y z : Value} {x2 y2 z2 : Value} (h : Sep W w ((rs ++ [boxR g t #[x, y, z]]) ++ [boxR g2 t2 #[x2, y2, z2]])) : (w.cell? ⟨g, 0, none⟩ = some x ∧ w.cell? ⟨g, 1, none⟩ = some y ∧ w.cell? ⟨g, 2, none⟩ = some z ∧ w.frozen? ⟨g, 0, none⟩ = false ∧ w.frozen? ⟨g, 1, none⟩ = false ∧ w.frozen? ⟨g, 2, none⟩ = false) ∧ (w.cell? ⟨g2, 0, none⟩ = some x2 ∧ w.cell? ⟨g2, 1, none⟩ = some y2 ∧ w.cell? ⟨g2, 2, none⟩ = some z2 ∧ w.frozen? ⟨g2, 0, none⟩ = false ∧ w.frozen? ⟨g2, 1, none⟩ = false ∧ w.frozen? ⟨g2, 2, none⟩ = false) :=
  ⟨Row.facts3 (box_at h rs.length (at_left (at_last _ _))), box_facts h⟩
theorem drop1 {W w : World} {rs : List Res} {r : Res} (h : Sep W w (rs ++ [r])) : Sep W w rs := by
  have h4 := drop (ts := []) h
  rwa [List.append_nil] at h4
theorem put_last {W w : World} {rs : List Res} {g : Nat} {t : TypeId} {cs : Array Value} (h : Sep W w (rs ++ [boxR g t cs])) (j : Nat) (v : Value) : Sep W (w.setCell ⟨g, j, none⟩ v) (rs ++ [boxR g t (cs.setIfInBounds j v)]) := by
  have h1 := put_box h rs.length (at_last _ _) j v
  rwa [set_last] at h1

theorem put_r {W w : World} {rs ts : List Res} {g : Nat} {t : TypeId} {cs : Array Value} (h : Sep W w (rs ++ ts)) (i : Nat) (hi : ts[i]? = some (boxR g t cs)) (j : Nat) (v : Value) : Sep W (w.setCell ⟨g, j, none⟩ v) (rs ++ ts.set i (boxR g t (cs.setIfInBounds j v))) := by
  have h1 := put_box h (rs.length + i) (by rw [List.getElem?_append_right (by omega)]; simpa using hi) j v
  rwa [List.set_append_right _ _ (by omega), Nat.add_sub_cancel_left] at h1
theorem let_go {W w : World} {rs : List Res} : ∀ {ts : List Res}, Sep W w (rs ++ ts) → Sep W w rs
  | [], h => by rwa [List.append_nil] at h
  | _ :: _, h => let_go (drop h)
theorem put3 {W w : World} {rs ts : List Res} {g : Nat} {t : TypeId} {a b c : Value} (h : Sep W w (rs ++ ts)) (i : Nat) (hi : ts[i]? = some (boxR g t #[a, b, c])) (x y z : Value) : Sep W (((w.setCell ⟨g, 0, none⟩ x).setCell ⟨g, 1, none⟩ y).setCell ⟨g, 2, none⟩ z) (rs ++ ts.set i (boxR g t #[x, y, z])) := by
  have hl : i < ts.length := (List.getElem?_eq_some_iff.1 hi).1
  have h1 := put_r (put_r (put_r h i hi 0 x) i (by rw [List.getElem?_set_self hl]) 1 y) i (by rw [List.getElem?_set_self (by simpa using hl)]) 2 z
  rwa [List.set_set, List.set_set] at h1
theorem r_facts {W w : World} {rs ts : List Res} {g : Nat} {t : TypeId} {x y z : Value} (h : Sep W w (rs ++ ts)) (i : Nat) (hi : ts[i]? = some (boxR g t #[x, y, z])) : w.cell? ⟨g, 0, none⟩ = some x ∧ w.cell? ⟨g, 1, none⟩ = some y ∧ w.cell? ⟨g, 2, none⟩ = some z ∧ w.frozen? ⟨g, 0, none⟩ = false ∧ w.frozen? ⟨g, 1, none⟩ = false ∧ w.frozen? ⟨g, 2, none⟩ = false :=
  Row.facts3 (box_at h (rs.length + i) (by rw [List.getElem?_append_right (by omega)]; simpa using hi))
/-- Boxes that lie apart have different numbers. -/
theorem r_apart {W w : World} {rs ts : List Res} {g g2 : Nat} {t t2 : TypeId} {cs cs2 : Array Value} (h : Sep W w (rs ++ ts)) (i j : Nat) (hi : ts[i]? = some (boxR g t cs)) (hj : ts[j]? = some (boxR g2 t2 cs2)) (hne : i ≠ j) : g ≠ g2 := fun e =>
  h.apart (rs.length + i) (rs.length + j) _ _ (by rw [List.getElem?_append_right (by omega)]; simpa using hi) (by rw [List.getElem?_append_right (by omega)]; simpa using hj) (by omega) g (by simp [boxR]) (by simp [boxR, e])

section
variable {W w : World} {rs : List Res} {c : Nat}
theorem str_sg (h : Sep W w rs) (i : Nat) (hi : rs[i]? = some (curR W c)) (l : List ByteArray) (P : ByteArray → Prop) (hP : ∀ v ∈ l, P v) (n : Nat) (hn : n = l.length) (h1 : 1 ≤ n) (h2 : n ≤ 1000) (g : Nat) (hg : g = w.heap.size) :
    Calls Try.prog 31 #[.pointer (some ⟨c, 0, none⟩), .slice (some ⟨g, 0, none⟩) n n] (w.alloc (.cells (l.map Value.string).toArray 9)) fun e w' => ∃ s, e = .returned (.string s) ∧ P s ∧ Sep W w' rs := by
  subst hn
  subst hg
  exact (l1Str_on w.heap.size l.length h1 h2 (strs_lit w 9 l P hP) (by simp) (fun e => by have := (cur_on h i hi).lt; omega) (cur_on (h.alloc _) i hi)).mono fun _ _ ⟨s, he, hs, ho⟩ => ⟨s, he, hs, moved (h.alloc _) i hi ho⟩
theorem int_sg (h : Sep W w rs) (i : Nat) (hi : rs[i]? = some (curR W c)) (l : List Int) (Q : Int → Prop) (hQ : ∀ v ∈ l, Q v) (n : Nat) (hn : n = l.length) (h1 : 1 ≤ n) (h2 : n ≤ 1000) (g : Nat) (hg : g = w.heap.size) :
    Calls Try.prog 32 #[.pointer (some ⟨c, 0, none⟩), .slice (some ⟨g, 0, none⟩) n n] (w.alloc (.cells (l.map (Value.int .i64)).toArray 3)) fun e w' => ∃ r, e = .returned (.int .i64 r) ∧ Q r ∧ Sep W w' rs := by
  subst hn
  subst hg
  exact int_s h i hi l Q hQ h1 h2
end
end Go.Proofs.Ytephiilicebdcaa.Sd

/-
  Chapter 1's l1Bent, over several things that lie apart: a copy of a row, one byte turned, cut or longer by one.
-/
namespace Go.Proofs.Ytephiilicebdcaa.Sd
set_option maxRecDepth 100000
open Go.ChangeShapes Go.WideShapes Go.ChangeAt Go.RowKit Mem Sl Ex Draw L2 L4
set_option linter.unusedVariables false

theorem enc_1000 {k : K} (h : L4.Good k) (h2 : k.text.size ≤ 12) : (encU k).length ≤ 1000 := by
  have h3 : k.t.length = k.text.size := Array.length_toList
  rw [encU_good (isK_iff.2 h)]
  have h6 : (num6 k).length ≤ 100 := by unfold num6; split <;> simp
  simp
  omega
section
variable {W w : World} {rs : List Res} {c : Nat}
set_option maxHeartbeats 2000000 in
theorem bent_s {a : Option Addr} {c0 : Nat} {m : List Int} (h : Sep W w rs) (i : Nat) (hi : rs[i]? = some (curR W c)) (j : Nat) (hj : rs[j]? = some (own 5 .u8 a c0 m)) (hm : Byts m) (hl : m.length ≤ 1000) :
    Calls Try.prog 46 #[.pointer (some ⟨c, 0, none⟩), .slice a m.length c0] w fun e w' => ∃ a1 c1 l n, e = .returned (.slice a1 n c1) ∧ (n ≤ l.length ∧ Byts l ∧ l.length ≤ 1001) ∧ Sep W w' (rs ++ [own 5 .u8 a1 c1 l]) := by
  obtain ⟨i0, hi0, hz0, hz1, hz2⟩ := infoOf _ _ _ _ infoB
  have H := Lib.hid (push_made h 5 .u8)
  have HI := Lib.hid (at_left (m := [own 5 .u8 (some ⟨w.heap.size, 0, none⟩) 0 []]) hi)
  have HJ := Lib.hid (at_left (m := [own 5 .u8 (some ⟨w.heap.size, 0, none⟩) 0 []]) hj)
  have HI2 := Lib.hid hi
  have HM := Lib.hid hm
  clear h hi hj hm
  go_enter Try.func46, Try.ntmps46
  go_wp2_with (at_builtin; refine wpList_append_sep _ rfl _ _ 22 rfl 5 i0 (.int .u8 0) 1 Try.underlying22 hi0 hz0 hz1 hz2 rfl .u8 _ _ _ [] rfl rfl W _ H.out rs.length (at_last _ _) _ a _ c0 m rfl rfl (H.out.own j HJ.out).reads (by simp [maxLen]; omega) (by simp; omega) ?_; intro a2 c2 w2 S2)
  rw [set_last, List.nil_append] at S2
  go_wp2_with fail
  go_at_call 49
  refine (below_s S2 i (at_left HI2.out) _ (by decide) (by decide)).mono ?_
  rintro e w3 ⟨x, rfl, ⟨hx0, hx1⟩, S3⟩
  clear S2
  by_cases e0 : x = 0
  · subst e0
    by_cases hz : m.length = 0
    · have hz' : ¬ (0 : Int) < (m.length : Int) := by omega
      have HS := Lib.hid S3
      clear S3
      go_wp2_with fail
      go_ret
      exact ⟨_, _, m, 0, rfl, ⟨Nat.zero_le _, HM.out, by omega⟩, HS.out⟩
    · have hz' : (0 : Int) < (m.length : Int) := by omega
      go_wp2_with fail
      go_at_call 49
      refine (below_s S3 i (at_left HI2.out) _ (by omega) (by omega)).mono ?_
      rintro e w4 ⟨y, rfl, ⟨hy0, hy1⟩, S4⟩
      obtain ⟨k, rfl⟩ : ∃ k : Nat, y = k := ⟨y.toNat, by omega⟩
      clear S3
      go_wp2_with fail
      go_at_call 49
      refine (below_s S4 i (at_left HI2.out) _ (by decide) (by decide)).mono ?_
      rintro e w5 ⟨v, rfl, ⟨hv0, hv1⟩, S5⟩
      clear S4
      have hwv : IntKind.u8.wrap v = v := IntWalk.u8_in _ ⟨by omega, by omega⟩
      rcases (S5.own rs.length (at_last _ _)).form with ⟨-, hnil, -⟩ | ⟨g, rfl, -, -, -, -⟩
      · exact absurd (by rw [hnil]; rfl) hz
      · obtain ⟨hc, hf⟩ := cell_s S5 rs.length (at_last _ _) k (by omega)
        have S6 := set_s S5 rs.length (at_last _ _) k v
        rw [set_last] at S6
        have HS := Lib.hid S6
        clear S5 S6
        go_wp2_with fail
        go_ret
        refine ⟨_, _, m.set k v, m.length, rfl, ⟨by simp, fun y hy => ?_, by simp; omega⟩, HS.out⟩
        rcases List.mem_or_eq_of_mem_set hy with h | h
        · exact HM.out y h
        · omega
  · have e0' : (x == 0) = false := by simp [e0]
    by_cases e1 : x = 1
    · subst e1
      go_wp2_with fail
      go_at_call 49
      refine (below_s S3 i (at_left HI2.out) _ (by omega) (by omega)).mono ?_
      rintro e w4 ⟨y, rfl, ⟨hy0, hy1⟩, S4⟩
      obtain ⟨k, rfl⟩ : ∃ k : Nat, y = k := ⟨y.toNat, by omega⟩
      clear S3
      have hcap := (S4.own rs.length (at_last _ _)).cap
      have hk1 : (k : Int) ≤ (c2 : Int) := by omega
      have HS := Lib.hid S4
      clear S4
      go_wp2_with fail
      go_ret
      exact ⟨_, _, m, k, rfl, ⟨by omega, HM.out, by omega⟩, HS.out⟩
    · have e1' : (x == 1) = false := by simp [e1]
      by_cases e2 : x = 2
      · subst e2
        go_wp2_with fail
        go_at_call 32
        refine (int_sg S3 i (at_left HI2.out) [0, 1, 128, 255] (fun n => 0 ≤ n ∧ n ≤ 255) (by decide) 4 rfl (by decide) (by decide) _ rfl).mono ?_
        rintro e w4 ⟨v, rfl, ⟨hv0, hv1⟩, S4⟩
        clear S3
        have hwv : IntKind.u8.wrap v = v := IntWalk.u8_in _ ⟨by omega, by omega⟩
        go_wp2_with (at_builtin; refine wpList_append_sep _ rfl _ _ 22 rfl 5 i0 (.int .u8 0) 1 Try.underlying22 hi0 hz0 hz1 hz2 rfl .u8 a2 _ c2 m rfl rfl W _ (S4.alloc _) rs.length (at_last _ _) _ _ 1 1 [_] rfl rfl (reads_one _ _ _ _) (by simp [maxLen]; omega) (by simp; omega) ?_; intro a3 c3 w5 S5)
        rw [set_last] at S5
        have HS := Lib.hid S5
        clear S4 S5
        go_ret
        exact ⟨_, _, m ++ [v], m.length + 1, rfl, ⟨by simp, HM.out.snoc hv0 hv1, by simp; omega⟩, HS.out⟩
      · have e2' : (x == 2) = false := by simp [e2]
        have HS := Lib.hid S3
        clear S3
        go_wp2_with fail
        go_ret
        exact ⟨_, _, _, _, rfl, ⟨Nat.le_refl _, HM.out, by omega⟩, HS.out⟩
end
end Go.Proofs.Ytephiilicebdcaa.Sd

