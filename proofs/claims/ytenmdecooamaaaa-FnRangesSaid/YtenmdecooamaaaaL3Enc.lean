/-
  The contracts of chapter 3's cipher: Encrypt and Decrypt, of the program (by its key stream, a closure) and of the specification. Conditions: the slice reads as a list of at most 10^9 bytes.
-/
import Derived.Test.YtenmdecooamaaaaL3Fn
import Derived.Deep.RegionHeld3
import Derived.Deep.AppendLies
namespace Go.Proofs.Ytenmdecooamaaaa.L3
open Go.ChangeShapes Go.WideShapes Go.ChangeAt Go.RowKit Mem Sl Ex L2
set_option linter.unusedVariables false


theorem own_keep {w w' : World} {B n : Nat} {e : TypeId} {v : Value} {xs : List Value} (h : w.ownsRow B e 1 v n xs) (hb : Below w.heap.size w w') : w'.ownsRow B e 1 v n xs := by
  refine ⟨h.1, ?_⟩
  rcases h.2 with hv | ⟨g, cap, cur, hv, hB, hg, r⟩
  · exact .inl hv
  · exact .inr ⟨g, cap, cur, hv, hB, (hb.block g (Array.getElem?_eq_some_iff.1 hg).1).trans hg, r⟩

theorem lt_of_cell {w : World} {p : Addr} {v : Value} (h : w.cell? p = some v) : p.block < w.heap.size := by
  by_cases hlt : p.block < w.heap.size
  · exact hlt
  · unfold World.cell? at h
    rw [Array.getElem?_eq_none (by omega)] at h
    simp at h
theorem Own.base_row {w : World} {B B' n : Nat} {e : TypeId} {v : Value} {xs : List Value} (h : w.ownsRow B e 1 v n xs) (hB : B' ≤ B) : w.ownsRow B' e 1 v n xs := by
  refine ⟨h.1, ?_⟩
  rcases h.2 with hv | ⟨g, cap, cur, hv, hb, r⟩
  · exact .inl hv
  · exact .inr ⟨g, cap, cur, hv, by omega, r⟩


theorem app_below {w w' : World} {B n : Nat} {e : TypeId} {v : Value} {xs : List Value} (h : w.ownsRow B e 1 v n xs) (hg : w.grownBy w' v.ownBlock) (hB : B ≤ w.heap.size) : Below B w w' := (Below.refl _ _).grown hg hB (fun k hk => (h.lt k hk).1)
theorem enc_go (key x y : Int) (k : Nat) (hx : 0 ≤ x ∧ x ≤ 255) (hy : 0 ≤ y ∧ y < 2147483647) (e : kh key [(k : Int)] = y) :
    IntKind.u8.wrap ((IntKind.i64.wrap (IntKind.i64.wrap x + y.tmod 256)).tmod 256) = encB key k x := by
  unfold encB
  rw [e, IntWalk.i64_in x (by omega), IntWalk.rem_in y 256 (by omega), IntWalk.i64_in _ (by omega), IntWalk.rem_in _ 256 (by omega), IntWalk.u8_in _ (by omega)]
theorem dec_go (key x y : Int) (k : Nat) (hx : 0 ≤ x ∧ x ≤ 255) (hy : 0 ≤ y ∧ y < 2147483647) (e : kh key [(k : Int)] = y) :
    L1.modV (IntKind.i64.wrap (IntKind.i64.wrap x - y.tmod 256)) 256 = decB key k x := by
  unfold decB L1.modV
  rw [if_pos (L1.inB_true.mpr ⟨by omega, by omega⟩), e, IntWalk.i64_in x (by omega), IntWalk.rem_in y 256 (by omega), IntWalk.i64_in _ (by omega)]
end Go.Proofs.Ytenmdecooamaaaa.L3
