/-
  Plain mathematics of chapter 5's DecodeRecord: a field, some fields and a record read from bytes; what was read is what would be written. No condition.
-/
import Derived.Test.YtkfejjoehgipmaaL5Enc
import Derived.Test.YtkfejjoehgipmaaPb
import Derived.Test.YtkfejjoehgipmaaPa
namespace Go.Proofs.Ytkfejjoehgipmaa.L5
set_option maxRecDepth 100000
open L2
open L4 (toU toI toI_toU)

def rdF (l : List Int) (off : Int) : Option (F × Int) :=
  if rbB l off 8 && rdB l (rbE l off 8) then some (⟨⟨(toU (rbL l off 8)).toArray⟩, rdN l (rbE l off 8)⟩, rdE l (rbE l off 8)) else none
def rdFs (l : List Int) : Int → Nat → Option (List F × Int)
  | off, 0 => some ([], off)
  | off, k + 1 => match rdF l off with
    | none => none
    | some (f, e) => match rdFs l e k with
      | none => none
      | some (fs, e2) => some (f :: fs, e2)
def decR (l : List Int) : Option (List F) :=
  if rdB l 0 && decide (rdN l 0 ≤ 6) then
    match rdFs l (rdE l 0) (rdN l 0).toNat with
    | none => none
    | some (fs, e) => if isR fs && decide (e = l.length) then some fs else none
  else none
def RfMid (l : List Int) (off : Int) (n k : Nat) (acc : List F) (o : Int) : Prop := acc.length = k ∧ rdFs l off n = (rdFs l o (n - k)).map fun p => (acc ++ p.1, p.2)
theorem RfMid.start (l : List Int) (off : Int) (n : Nat) : RfMid l off n 0 [] off := ⟨rfl, by simp⟩
theorem RfMid.none {l : List Int} {off : Int} {n k : Nat} {acc : List F} {o : Int} (h : RfMid l off n k acc o) (hk : k < n) (hr : rdF l o = Option.none) : rdFs l off n = Option.none := by
  rw [h.2, show n - k = (n - (k + 1)) + 1 by omega, rdFs, hr]
  rfl
theorem RfMid.next {l : List Int} {off : Int} {n k : Nat} {acc : List F} {o e : Int} {f : F} (h : RfMid l off n k acc o) (hk : k < n) (hr : rdF l o = some (f, e)) : RfMid l off n (k + 1) (acc ++ [f]) e := by
  refine ⟨by simp [h.1], ?_⟩
  rw [h.2, show n - k = (n - (k + 1)) + 1 by omega, rdFs, hr]
  simp only
  cases rdFs l e (n - (k + 1)) with
  | none => rfl
  | some p => simp
end Go.Proofs.Ytkfejjoehgipmaa.L5
