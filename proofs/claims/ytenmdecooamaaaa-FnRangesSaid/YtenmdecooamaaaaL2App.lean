/-
  The contracts of chapter 2's writers: AppendUvarint of the specification and of the program (extendByVarint, takeBytes), AppendBytes, EncodeInts. Conditions: the slices read as lists, of at most 2^40 elements.
-/
import Derived.Test.YtenmdecooamaaaaEx
import Derived.Test.YtenmdecooamaaaaL2Num
namespace Go.Proofs.Ytenmdecooamaaaa.L2
open Go.ChangeShapes Go.WideShapes Go.ChangeAt Go.RowKit Mem Sl Ex
set_option linter.unusedVariables false

theorem info8 : (Try.prog.info? 5).map (fun i => (i.zero, i.size, i.bytes)) = some (some (.int .u8 0), 1, 1) := by kernel_rfl

theorem own_alloc {w : World} {B : Nat} {e : TypeId} {k : IntKind} {a : Option Addr} {c : Nat} {l : List Int} (h : Own w B e k a c l) (o : Obj) : Own (w.alloc o) B e k a c l := h.below ((Below.refl _ _).alloc (Nat.le_refl _) o)
theorem below_alloc {B : Nat} {w w' : World} (h : Below B w w') (o : Obj) (hB : B ≤ w.heap.size) : Below B w (w'.alloc o) := h.alloc (Nat.le_trans hB h.size) o
theorem below_own {B : Nat} {w w' : World} {e : TypeId} {k : IntKind} {a : Option Addr} {c : Nat} {l : List Int} (ho : Own w B e k a c l) (hg : w.grownBy w' (Value.slice a l.length c).ownBlock) (hB : B ≤ w.heap.size) : Below B w w' :=
  (Below.refl _ _).grown hg hB (fun k hk => (ho.lt k hk).1)

theorem or_128 (m : Nat) : bits .or .u8 ((m : Int) % 128) 128 = ((m % 128 + 128 : Nat) : Int) := by
  rw [show (m : Int) % 128 = ((m % 128 : Nat) : Int) by omega, show (128 : Int) = ((128 : Nat) : Int) from rfl, u8_or_nat _ _ (by omega) (by omega), Nat.or_comm, nat_join 7 128 (m % 128) (by decide) (by omega)]
  congr 1
  omega




theorem and_127 (m : Nat) (hm : m < 18446744073709551616) : bits .and .i64 (m : Int) 127 = ((m % 128 : Nat) : Int) := by
  show IntKind.i64.wrap ((BitVec.ofInt 64 (m : Int) &&& BitVec.ofInt 64 127).toNat : Nat) = _
  rw [BitVec.ofInt_natCast, show (127 : Int) = ((127 : Nat) : Int) from rfl, BitVec.ofInt_natCast, BitVec.toNat_and, BitVec.toNat_ofNat, BitVec.toNat_ofNat, Nat.mod_eq_of_lt (by omega), show 127 % 2 ^ 64 = 127 from rfl, nat_mask7, IntKind.wrap_i64]
  omega
theorem or_128i (m : Nat) : bits .or .i64 ((m : Int) % 128) 128 % 256 = ((m % 128 + 128 : Nat) : Int) := by
  rw [show (m : Int) % 128 = ((m % 128 : Nat) : Int) by omega]
  show IntKind.i64.wrap ((BitVec.ofInt 64 ((m % 128 : Nat) : Int) ||| BitVec.ofInt 64 128).toNat : Nat) % 256 = _
  rw [BitVec.ofInt_natCast, show (128 : Int) = ((128 : Nat) : Int) from rfl, BitVec.ofInt_natCast, BitVec.toNat_or, BitVec.toNat_ofNat, BitVec.toNat_ofNat, Nat.mod_eq_of_lt (by omega), show 128 % 2 ^ 64 = 128 from rfl, Nat.or_comm, nat_join 7 128 (m % 128) (by decide) (by omega), IntKind.wrap_i64]
  omega



end Go.Proofs.Ytenmdecooamaaaa.L2
