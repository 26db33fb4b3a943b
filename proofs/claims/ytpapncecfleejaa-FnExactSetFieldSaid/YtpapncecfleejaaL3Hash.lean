/-
  The contracts of chapter 3's hash: fold, Hash, KeyedHash, of the specification and of the program. Conditions: the slice reads as a list of at most 2^40 numbers; the accumulator is a remainder modulo Modulus.
-/
import Derived.Test.YtpapncecfleejaaL2App
import Derived.Test.YtpapncecfleejaaL1Div
import Derived.Test.YtpapncecfleejaaL3Num
namespace Go.Proofs.Ytpapncecfleejaa.L3
set_option maxRecDepth 100000
open Go.ChangeShapes Go.WideShapes Go.ChangeAt Go.RowKit Mem Sl Ex L2
set_option linter.unusedVariables false

theorem info64h : (Try.prog.info? 3).map (fun i => (i.zero, i.size, i.bytes)) = some (some (.int .i64 0), 1, 8) := by kernel_rfl
theorem modM (v : Int) : L1.modV v 2147483647 = v % 2147483647 := by
  unfold L1.modV
  rw [if_pos (L1.inB_true.mpr ⟨by omega, by omega⟩)]
theorem own_lit (w : World) (e : TypeId) (k : IntKind) (l : List Int) {B : Nat} (hB : B ≤ w.heap.size) (hl : l.length ≤ maxLen) : Own (w.alloc (.cells (ints k l).toArray e)) B e k (some ⟨w.heap.size, 0, none⟩) l.length l :=
  ⟨by simp, .inr ⟨w.heap.size, l.length, (ints k l).toArray, rfl, hB, heap_alloc_new w _, Nat.le_refl _, hl, by simp, by rw [Nat.mul_one]; exact List.take_of_length_le (by simp)⟩⟩
theorem hfold_take (d : Int) (l : List Int) (k : Nat) (h : k < l.length) : hfold d (l.take (k + 1)) = hstep (hfold d (l.take k)) l[k] := by
  rw [List.take_succ_eq_append_getElem h]; unfold hfold; rw [List.foldl_append]; rfl
theorem hfold_append (d : Int) (l m : List Int) : hfold d (l ++ m) = hfold (hfold d l) m := by simp [hfold]
theorem kh_folds (k : Int) (l : List Int) : hfold (hfold (hfold 11 [k]) l) [k] = kh k l := by
  unfold kh hs
  rw [show k :: (l ++ [k]) = ([k] ++ l) ++ [k] by simp, hfold_append, hfold_append]

theorem reads_at (w : World) (k : IntKind) (x : Int) (t : TypeId) (g : Nat) (hg : g = w.heap.size) : Reads (w.alloc (.cells #[.int k x] t)) (g + 1) (some ⟨g, 0, none⟩) (ints k [x]) := by
  subst hg
  exact reads_one w k x t
end Go.Proofs.Ytpapncecfleejaa.L3
