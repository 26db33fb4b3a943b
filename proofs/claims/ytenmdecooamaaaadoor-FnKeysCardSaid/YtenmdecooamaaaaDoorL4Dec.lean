/-
  The contract of chapter 4's DecodeKey of the specification. Condition: a byte string of at most 2^40 bytes.
-/
import Derived.Test.YtenmdecooamaaaaDoorL4Cod
namespace Go.Proofs.YtenmdecooamaaaaDoor.L4
open Go.Op (bytesLess)
open Go.ChangeShapes Go.WideShapes Go.ChangeAt Go.RowKit Mem Sl Ex L2
set_option linter.unusedVariables false

def oK (o : Option K) : K := o.getD K.zero
def decK (l : List Int) : K := oK (decO (toU l))
def decB (l : List Int) : Bool := (decO (toU l)).isSome
theorem dec_no {l : List Int} (h : decO (toU l) = none) : decK l = K.zero ∧ decB l = false := by unfold decK decB oK; rw [h]; exact ⟨rfl, rfl⟩
theorem dec_yes {l : List Int} {k : K} (h : decO (toU l) = some k) : decK l = k ∧ decB l = true := by unfold decK decB oK; rw [h]; exact ⟨rfl, rfl⟩
theorem dec_is {l : List Int} {k : K} (h : cand (toU l) = some k) : decO (toU l) = if isK k then some k else none := by
  unfold decO
  rw [h, Option.filter_some]
/-- DecodeKey's two results. -/
def DkE (l : List Int) : Ending := .returned (.tuple #[(decK l).v, .bool (decB l)])
theorem toU_cons (x : Int) (r : List Int) : toU (x :: r) = UInt8.ofNat x.toNat :: toU r := rfl
@[simp] theorem toU_length (l : List Int) : (toU l).length = l.length := by simp [toU]
theorem cand_short {x : Int} {r : List Int} (hx : 0 ≤ x ∧ x ≤ 255) (h : ¬ x = 2) (hr : r.length < 6) : cand (toU (x :: r)) = none := by
  rw [toU_cons]
  show (if (UInt8.ofNat x.toNat).toNat = 2 then _ else if (toU r).length < 6 then none else _) = none
  rw [UInt8.toNat_ofNat', if_neg (by omega), if_pos (by simpa using hr)]
theorem cand_text {r : List Int} : cand (toU (2 :: r)) = some ⟨2, 0, strOfNums r⟩ := by
  show some (⟨2, 0, ⟨(toU r).toArray⟩⟩ : K) = _
  congr 1
theorem cand_num {x : Int} {r : List Int} (hx : 0 ≤ x ∧ x ≤ 255) (h : ¬ x = 2) (hr : 6 ≤ r.length) : cand (toU (x :: r)) = some ⟨x, (val ((toU r).take 6) : Int) - 1000000000000, strOfNums (r.drop 6)⟩ := by
  rw [toU_cons]
  show (if (UInt8.ofNat x.toNat).toNat = 2 then _ else if (toU r).length < 6 then none else some (⟨(UInt8.ofNat x.toNat).toNat, (val ((toU r).take 6) : Int) - 1000000000000, ⟨((toU r).drop 6).toArray⟩⟩ : K)) = _
  rw [UInt8.toNat_ofNat', if_neg (by omega), if_neg (by simp; omega)]
  congr 1
  refine K.ext' (by show ((x.toNat % 2 ^ 8 : Nat) : Int) = x; omega) rfl ?_
  simp only [K.t, strOfNums_data]
  simp [toU]
theorem or_byte (m : Nat) (x : Int) (h0 : 0 ≤ x) (h1 : x ≤ 255) (hm : (m : Int) ≤ 1099511627776) : bits .or .i64 ((m : Int) * 256) x = (m : Int) * 256 + x := by
  obtain ⟨y, rfl⟩ : ∃ y : Nat, x = y := ⟨x.toNat, by omega⟩
  have h2 : (BitVec.ofInt 64 ((m : Int) * 256) ||| BitVec.ofInt 64 (y : Int)).toNat = m * 256 + y := by
    rw [show (m : Int) * 256 = ((m * 256 : Nat) : Int) by omega, BitVec.ofInt_natCast, BitVec.ofInt_natCast, BitVec.toNat_or, BitVec.toNat_ofNat, BitVec.toNat_ofNat, Nat.mod_eq_of_lt (show m * 256 < 2 ^ 64 by omega), Nat.mod_eq_of_lt (show y < 2 ^ 64 by omega)]
    rw [Nat.mul_comm m 256, show (256 : Nat) = 2 ^ 8 by decide, Nat.two_pow_add_eq_or_of_lt (by omega)]
  show IntKind.i64.wrap ((BitVec.ofInt 64 ((m : Int) * 256) ||| BitVec.ofInt 64 (y : Int)).toNat : Nat) = _
  rw [h2, IntKind.wrap_i64]
  omega

theorem Row.facts3 {w : World} {g : Nat} {t : TypeId} {x y z : Value} (h : Row w g t #[x, y, z]) : w.cell? ⟨g, 0, none⟩ = some x ∧ w.cell? ⟨g, 1, none⟩ = some y ∧ w.cell? ⟨g, 2, none⟩ = some z ∧ w.frozen? ⟨g, 0, none⟩ = false ∧ w.frozen? ⟨g, 1, none⟩ = false ∧ w.frozen? ⟨g, 2, none⟩ = false := by
  refine ⟨?_, ?_, ?_, h.free 0, h.free 1, h.free 2⟩ <;> (rw [h.cell]; rfl)
/-- The zero key's cell and the key's cell stand, and below w nothing has turned. -/
structure Two (w wr : World) (t : TypeId) (k : K) : Prop where
  z : Row wr w.heap.size t #[.int .i64 0, .int .i64 0, .string ⟨#[]⟩]
  k : Row wr (w.heap.size + 1) t k.cells
  b : Below w.heap.size w wr
theorem Two.made (w : World) (t : TypeId) (k : K) : Two w ((w.alloc (.cells #[.int .i64 0, .int .i64 0, .string ⟨#[]⟩] t)).alloc (.cells k.cells t)) t k := by
  refine ⟨(Row.made w t _).more _, ?_, below_alloc (below_alloc (Below.refl _ _) _ (Nat.le_refl _)) _ (Nat.le_refl _)⟩
  rw [show w.heap.size + 1 = (w.alloc (.cells #[.int .i64 0, .int .i64 0, .string ⟨#[]⟩] t)).heap.size by simp]
  exact Row.made _ _ _
theorem Two.next {w wr w' : World} {t : TypeId} {k : K} (h : Two w wr t k) (hb : Below wr.heap.size wr w') : Two w w' t k :=
  ⟨h.z.below hb h.z.inside, h.k.below hb h.k.inside, h.b.trans (hb.mono h.b.size)⟩

end Go.Proofs.YtenmdecooamaaaaDoor.L4
