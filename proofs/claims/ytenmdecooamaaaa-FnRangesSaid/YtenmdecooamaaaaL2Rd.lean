/-
  The contracts of chapter 2's readers: ReadUvarint of the specification and of the program. Conditions: the bytes read as a list of numbers from 0 to 255, of at most 2^40.
-/
import Derived.Test.YtenmdecooamaaaaL2App
import Derived.Test.YtenmdecooamaaaaL1Min
namespace Go.Proofs.Ytenmdecooamaaaa.L2
open Go.ChangeShapes Go.WideShapes Go.ChangeAt Go.RowKit Mem Sl Ex
set_option linter.unusedVariables false

def Byt (l : List Int) : Prop := ∀ x ∈ l, 0 ≤ x ∧ x ≤ 255
theorem Byt.get {l : List Int} (h : Byt l) (k : Nat) (hk : k < l.length) : 0 ≤ l[k] ∧ l[k] ≤ 255 := h _ (List.getElem_mem hk)

/-- The tuple that a reading gives. -/
def RdE (l : List Int) (off : Int) : Ending := .returned (.tuple #[.int .i64 (rdN l off), .int .i64 (rdE l off), .bool (rdB l off)])
theorem RdE.none {l : List Int} {off : Int} (h : rd l off = none) : RdE l off = .returned (.tuple #[.int .i64 0, .int .i64 0, .bool false]) := by
  unfold RdE rdN rdE rdB
  rw [h]; rfl
theorem RdE.some {l : List Int} {off v e : Int} {m : Nat} (h : rd l off = some (v, m)) (he : off + m = e) : RdE l off = .returned (.tuple #[.int .i64 v, .int .i64 e, .bool true]) := by
  unfold RdE
  rw [rdN_of h, rdE_of h, rdB_of h, he]
theorem rd_neg {l : List Int} {off : Int} (h : off < 0) : rd l off = none := by unfold rd; rw [if_neg (by omega)]
theorem rd_beyond {l : List Int} {off : Int} (h : (l.length : Int) ≤ off) : rd l off = none := by
  unfold rd
  rw [if_pos (by omega), List.drop_eq_nil_of_le (by omega)]
  rfl

/-- A reading that has come k bytes far. -/
def Mid (l : List Int) (o k : Nat) (v : Int) : Prop := 0 ≤ v ∧ v < 128 ^ k ∧ rd l o = rdAux k v (l.drop (o + k))
theorem Mid.start (l : List Int) (o : Nat) : Mid l o 0 0 := ⟨by omega, by decide, by
  unfold rd
  rw [if_pos (by omega)]
  simp⟩
theorem Mid.ends {l : List Int} {o k : Nat} {v : Int} (h : Mid l o k v) (hk : l.length ≤ o + k) : rd l o = none := by
  rw [h.2.2, List.drop_eq_nil_of_le hk]; rfl
theorem Mid.six {l : List Int} {o : Nat} {v : Int} (h : Mid l o 6 v) : rd l o = none := by
  rw [h.2.2]
  cases l.drop (o + 6) with
  | nil => rfl
  | cons c s => simp [rdAux]
theorem Mid.cons {l : List Int} {o k : Nat} {v : Int} (h : Mid l o k v) (hk : o + k < l.length) (h6 : k < 6) :
    rd l o = if l[o + k] < 128 then (if (l[o + k] = 0 ∧ 0 < k) ∨ 1000000000000 < v + l[o + k] % 128 * 128 ^ k then none else some (v + l[o + k] % 128 * 128 ^ k, k + 1)) else rdAux (k + 1) (v + l[o + k] % 128 * 128 ^ k) (l.drop (o + (k + 1))) := by
  rw [h.2.2, List.drop_eq_getElem_cons hk, rdAux, if_neg (by omega)]
  rfl
theorem Mid.next {l : List Int} {o k : Nat} {v : Int} (h : Mid l o k v) (hk : o + k < l.length) (h6 : k < 6) (hc : ¬ l[o + k] < 128) : Mid l o (k + 1) (v + l[o + k] % 128 * 128 ^ k) := by
  have hp : (0 : Int) < 128 ^ k := Int.pow_pos (by decide)
  have h1 := Int.mul_nonneg (show 0 ≤ l[o + k] % 128 by omega) (Int.le_of_lt hp)
  have h2 : l[o + k] % 128 * 128 ^ k ≤ 127 * 128 ^ k := Int.mul_le_mul_of_nonneg_right (by omega) (Int.le_of_lt hp)
  obtain ⟨h3, h4, _⟩ := h
  refine ⟨by omega, ?_, ?_⟩
  · rw [Int.pow_succ]
    generalize (128 : Int) ^ k = p at *
    omega
  · rw [Mid.cons ⟨h3, h4, by assumption⟩ hk h6, if_neg hc]

theorem pow7 (k : Nat) : (2 : Int) ^ (7 * k) = 128 ^ k := by rw [Int.pow_mul]; rfl
theorem pow7n (k : Nat) : (2 : Nat) ^ (7 * k) = 128 ^ k := by rw [Nat.pow_mul]
theorem pow_6 (k : Nat) (h : k < 6) : (128 : Nat) ^ k ≤ 34359738368 := by
  have := Nat.pow_le_pow_right (show 0 < 128 by decide) (show k ≤ 5 by omega)
  have e : (128 : Nat) ^ 5 = 34359738368 := by decide
  omega
theorem or_i64 (a b : Nat) (ha : a < 4611686018427387904) (hb : b < 4611686018427387904) : bits .or .i64 (a : Int) (b : Int) = ((a ||| b : Nat) : Int) := by
  show IntKind.i64.wrap ((BitVec.ofInt 64 (a : Int) ||| BitVec.ofInt 64 (b : Int)).toNat : Nat) = _
  have h := Nat.or_lt_two_pow (x := a) (y := b) (n := 62) (by omega) (by omega)
  rw [BitVec.ofInt_natCast, BitVec.ofInt_natCast, BitVec.toNat_or, BitVec.toNat_ofNat, BitVec.toNat_ofNat, Nat.mod_eq_of_lt (by omega), Nat.mod_eq_of_lt (by omega), IntKind.wrap_i64]
  omega
/-- One group more. -/
theorem group_in (x y : Int) (k : Nat) (hk : k < 6) (h0 : 0 ≤ x) (h1 : x < 128 ^ k) (h2 : 0 ≤ y) (h3 : y ≤ 255) :
    bits .or .i64 x (wrap64 (bits .and .i64 y 127 * 2 ^ (7 * k))) = x + y % 128 * 128 ^ k := by
  obtain ⟨X, rfl⟩ : ∃ n : Nat, x = n := ⟨x.toNat, by omega⟩
  obtain ⟨Y, rfl⟩ : ∃ n : Nat, y = n := ⟨y.toNat, by omega⟩
  have hp := pow_6 k hk
  have hX : X < 128 ^ k := by
    have e : ((128 ^ k : Nat) : Int) = 128 ^ k := Int.natCast_pow 128 k
    omega
  rw [and_127 Y (by omega), pow7]
  have e1 : ((Y % 128 : Nat) : Int) * 128 ^ k = ((Y % 128 * 128 ^ k : Nat) : Int) := by rw [Int.natCast_mul, Int.natCast_pow]; rfl
  have hb : Y % 128 * 128 ^ k ≤ 127 * 34359738368 := Nat.mul_le_mul (by omega) hp
  rw [e1, IntWalk.wrap64_in _ ⟨by omega, by omega⟩, or_i64 _ _ (by omega) (by omega), Nat.or_comm, nat_join (7 * k) _ X (by rw [pow7n]; exact Nat.mul_mod_left ..) (by rw [pow7n]; exact hX),
    show (Y : Int) % 128 = ((Y % 128 : Nat) : Int) by omega, e1]
  omega


theorem and_u8 (y : Int) (h2 : 0 ≤ y) (h3 : y ≤ 255) : bits .and .u8 y 127 = bits .and .i64 y 127 := by
  obtain ⟨Y, rfl⟩ : ∃ n : Nat, y = n := ⟨y.toNat, by omega⟩
  rw [and_127 Y (by omega), show (127 : Int) = ((127 : Nat) : Int) from rfl, u8_and_nat Y 127 (by omega) (by omega), nat_mask7]
theorem group_in8 (x y : Int) (k : Nat) (hk : k < 6) (h0 : 0 ≤ x) (h1 : x < 128 ^ k) (h2 : 0 ≤ y) (h3 : y ≤ 255) :
    bits .or .i64 x (wrap64 (wrap64 (bits .and .u8 y 127) * 2 ^ (7 * k))) = x + y % 128 * 128 ^ k := by
  have e : wrap64 (bits .and .u8 y 127) = bits .and .u8 y 127 := by
    obtain ⟨Y, rfl⟩ : ∃ n : Nat, y = n := ⟨y.toNat, by omega⟩
    rw [and_u8 _ h2 h3, and_127 Y (by omega)]
    exact IntWalk.wrap64_in _ ⟨by omega, by omega⟩
  rw [e, and_u8 y h2 h3]; exact group_in x y k hk h0 h1 h2 h3

end Go.Proofs.Ytenmdecooamaaaa.L2
