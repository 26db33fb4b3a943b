/-
  What a valid record gives: its fields' names and numbers. No condition.
-/
import Derived.Test.YtephiilicebdcaaL5Ib
import Derived.Test.YtephiilicebdcaaL5Rd
namespace Go.Proofs.Ytephiilicebdcaa.L5
set_option maxRecDepth 100000
open L4 (boxR push_box box_at)
open Go.ChangeShapes Go.WideShapes Go.ChangeAt Go.RowKit Mem Sl Ex L2 Sv
set_option linter.unusedVariables false
set_option linter.unusedSimpArgs false

theorem wf_mk {x : Int} (h1 : -9223372036854775808 ≤ x) (h2 : x ≤ 9223372036854775807) : (Lit.int .i64 x).wf = true := by
  simp [Lit.wf, IntKind.min, IntKind.max, IntKind.signed, IntKind.bits]
  omega
theorem isR_at {l : List F} (h : isR l = true) (k : Nat) (hk : k < l.length) : isN l[k].t = true ∧ 0 ≤ l[k].n ∧ l[k].n ≤ 1000000000 := by
  have := ((isR_iff.1 h).1 k hk hk).1
  unfold okF at this
  simp only [Bool.and_eq_true, L1.inB, decide_eq_true_eq] at this
  exact ⟨this.1, this.2.1, this.2.2⟩
theorem isN_size {s : ByteArray} (h : isN s.data.toList = true) : s.size ≤ 8 := by
  unfold isN at h
  simp only [Bool.and_eq_true, decide_eq_true_eq] at h
  have e : s.data.toList.length = s.size := by rw [Array.length_toList]; rfl
  omega
theorem isR_small {l : List F} (h : isR l = true) : Small l := fun f hf => by
  obtain ⟨k, hk, rfl⟩ := List.getElem_of_mem hf
  have := isN_size (isR_at h k hk).1
  omega
theorem sep_two {W w : World} {r0 r1 : Res} {ts : List Res} (h : Sep W w (r0 :: r1 :: ts)) : Sep W w [r0, r1] :=
  sep_sub h (fun i => i) (fun i r hr => by
    match i, hr with
    | 0, hr => exact hr
    | 1, hr => exact hr
    | i + 2, hr => simp at hr) (fun i j _ _ e => e)
end Go.Proofs.Ytephiilicebdcaa.L5
