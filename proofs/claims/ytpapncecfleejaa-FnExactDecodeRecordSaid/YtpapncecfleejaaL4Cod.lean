/-
  The contracts of chapter 4's EncodeKey and DecodeKey of the specification. Conditions: a text, a byte string of at most 2^40 bytes.
-/
import Derived.Test.YtpapncecfleejaaL4Cmp
import Derived.Test.YtpapncecfleejaaL3Fn
namespace Go.Proofs.Ytpapncecfleejaa.L4
set_option maxRecDepth 100000
open Go.Op (bytesLess)
open Go.ChangeShapes Go.WideShapes Go.ChangeAt Go.RowKit Mem Sl Ex L2
set_option linter.unusedVariables false

def toI (u : List UInt8) : List Int := u.map fun b => (b.toNat : Int)
@[simp] theorem toI_length (u : List UInt8) : (toI u).length = u.length := by simp [toI]
theorem toI_append (u v : List UInt8) : toI (u ++ v) = toI u ++ toI v := by simp [toI]
theorem toI_toU (l : List Int) (h : Byt l) : toI (toU l) = l := by
  unfold toI toU
  rw [List.map_map]
  have : ∀ x ∈ l, ((fun b : UInt8 => (b.toNat : Int)) ∘ fun n : Int => UInt8.ofNat n.toNat) x = x := fun x hx => by
    have := h x hx
    simp only [Function.comp, UInt8.toNat_ofNat']
    omega
  rw [List.map_congr_left this, List.map_id']
theorem toU_toI (u : List UInt8) : toU (toI u) = u := by
  unfold toI toU
  rw [List.map_map]
  have : ∀ x ∈ u, ((fun n : Int => UInt8.ofNat n.toNat) ∘ fun b : UInt8 => (b.toNat : Int)) x = x := fun x _ => by simp
  rw [List.map_congr_left this, List.map_id']
theorem toI_byt (u : List UInt8) : Byt (toI u) := by
  intro x hx
  obtain ⟨b, _, rfl⟩ := List.mem_map.1 hx
  have := b.toNat_lt
  exact ⟨by omega, by omega⟩
theorem strB_toI (s : ByteArray) : L3.strB s = toI s.data.toList := rfl

theorem and_255 (m : Nat) (h : m < 4611686018427387904) : bits .and .i64 (m : Int) 255 = ((m % 256 : Nat) : Int) := by
  have h1 : (BitVec.ofInt 64 (m : Int) &&& BitVec.ofInt 64 (255 : Int)).toNat = m % 256 := by
    rw [show (255 : Int) = ((255 : Nat) : Int) from rfl, BitVec.ofInt_natCast, BitVec.ofInt_natCast, BitVec.toNat_and, BitVec.toNat_ofNat, BitVec.toNat_ofNat, Nat.mod_eq_of_lt (show m < 2 ^ 64 by omega), show 255 % 2 ^ 64 = 2 ^ 8 - 1 by decide, Nat.and_two_pow_sub_one_eq_mod]
  show IntKind.i64.wrap ((BitVec.ofInt 64 (m : Int) &&& BitVec.ofInt 64 (255 : Int)).toNat : Nat) = _
  rw [h1, IntKind.wrap_i64]
  omega
theorem encU_len (k : K) (h : (k.text.size : Int) ≤ 1048576) : (encU k).length ≤ 1099511627776 := by
  have e : k.t.length = k.text.size := by unfold K.t; rw [Array.length_toList]; rfl
  unfold encU
  split
  · simp only [List.length_cons, List.length_append, num6]
    split <;> simp <;> omega
  · simp
theorem byte_step (m d : Nat) (h : (m : Int) ≤ 2000000000000) : bits .and .i64 ((m : Int) / (d : Int)) 255 % 256 = ((m / d % 256 : Nat) : Int) := by
  have h1 := Nat.div_le_self m d
  rw [show (m : Int) / (d : Int) = ((m / d : Nat) : Int) from rfl, and_255 _ (by omega)]
  omega
theorem be_get (k m i : Nat) (h : i < k) : (be k m)[i]'(by simpa using h) = UInt8.ofNat (m / 256 ^ (k - 1 - i) % 256) := by
  induction k generalizing i with
  | zero => omega
  | succ k ih =>
    cases i with
    | zero => simp [be]
    | succ i =>
      have := ih i (by omega)
      simp only [be, List.getElem_cons_succ, this]
      congr 4
      omega
theorem six_step (m j : Nat) (h : 1 ≤ j) (h6 : j ≤ 6) : toI ((be 6 m).take (6 - (j - 1))) = toI ((be 6 m).take (6 - j)) ++ [((m / 256 ^ (j - 1) % 256 : Nat) : Int)] := by
  rw [show 6 - (j - 1) = (6 - j) + 1 by omega, List.take_succ_eq_append_getElem (by simp; omega), toI_append, be_get 6 m (6 - j) (by omega)]
  congr 1
  simp only [toI, List.map_cons, List.map_nil, UInt8.toNat_ofNat']
  rw [show 6 - 1 - (6 - j) = j - 1 by omega]
  congr 2
  omega

end Go.Proofs.Ytpapncecfleejaa.L4
