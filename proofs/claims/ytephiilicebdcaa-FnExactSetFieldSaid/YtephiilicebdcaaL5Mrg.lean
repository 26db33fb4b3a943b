/-
  The contract of l5Merge of the specification (chapter 5): the field of one name. Conditions: records of at most 2^40 fields.
-/
import Derived.Test.YtephiilicebdcaaPc
import Derived.Test.YtephiilicebdcaaPb
namespace Go.Proofs.Ytephiilicebdcaa.L5
set_option maxRecDepth 100000
open L4 (boxR push_box box_at)
open Go.ChangeShapes Go.WideShapes Go.ChangeAt Go.RowKit Mem Sl Ex L2 Sv
set_option linter.unusedVariables false
set_option linter.unusedSimpArgs false

/-- The number and the existence of a field that the base gives as (n, h), the sides as (x, o) and (y, f). -/
def mrg (n x y : Int) (h o f : Bool) : Int × Bool := if x = n ∧ o = h then (y, f) else if y = n ∧ f = h then (x, o) else (max x y, o || f)
def mN (l a b : List F) (s : List UInt8) : Int := (mrg (getN l s) (getN a s) (getN b s) (getB l s) (getB a s) (getB b s)).1
def mB (l a b : List F) (s : List UInt8) : Bool := (mrg (getN l s) (getN a s) (getN b s) (getB l s) (getB a s) (getB b s)).2
/-- It does not depend on the order of the sides. -/
theorem mrg_comm (n x y : Int) (h o f : Bool) : mrg n x y h o f = mrg n y x h f o := by
  unfold mrg
  by_cases h1 : x = n ∧ o = h <;> by_cases h2 : y = n ∧ f = h
  · rw [if_pos h1, if_pos h2, h1.1, h1.2, h2.1, h2.2]
  · rw [if_pos h1, if_neg h2, if_pos h1]
  · rw [if_neg h1, if_pos h2, if_pos h2]
  · rw [if_neg h1, if_neg h2, if_neg h2, if_neg h1, Int.max_comm, Bool.or_comm]
set_option maxHeartbeats 4000000 in
theorem l5Merge_any (a0 a1 a2 : Option Addr) (c0 c1 c2 : Nat) (l0 l1 l2 : List F) (s : ByteArray) (hl0 : l0.length ≤ 1099511627776) (hl1 : l1.length ≤ 1099511627776) (hl2 : l2.length ≤ 1099511627776) (w : World)
    (hr0 : Reads w w.heap.size a0 (cellsF l0)) (hr1 : Reads w w.heap.size a1 (cellsF l1)) (hr2 : Reads w w.heap.size a2 (cellsF l2)) :
    Calls Try.prog 54 #[.agg #[.slice a0 l0.length c0], .agg #[.slice a1 l1.length c1], .agg #[.slice a2 l2.length c2], .string s] w fun e w' =>
      e = .returned (.tuple #[.int .i64 (mN l0 l1 l2 s.data.toList), .bool (mB l0 l1 l2 s.data.toList)]) ∧ Below w.heap.size w w' := by
  have H0 := Lib.hid (fun w' (h : Below w.heap.size w w') => specGetField_any a0 c0 l0 s hl0 w' ((hr0.below h).more h.size))
  have H1 := Lib.hid (fun w' (h : Below w.heap.size w w') => specGetField_any a1 c1 l1 s hl1 w' ((hr1.below h).more h.size))
  have H2 := Lib.hid (fun w' (h : Below w.heap.size w w') => specGetField_any a2 c2 l2 s hl2 w' ((hr2.below h).more h.size))
  obtain ⟨n0, hn0⟩ : ∃ n, n = l0.length := ⟨_, rfl⟩
  obtain ⟨n1, hn1⟩ : ∃ n, n = l1.length := ⟨_, rfl⟩
  obtain ⟨n2, hn2⟩ : ∃ n, n = l2.length := ⟨_, rfl⟩
  rw [← hn0, ← hn1, ← hn2]
  rw [← hn0] at H0
  rw [← hn1] at H1
  rw [← hn2] at H2
  clear hn0 hn1 hn2 hl0 hl1 hl2 hr0 hr1 hr2
  unfold mN mB
  obtain ⟨n, hn⟩ : ∃ v, v = getN l0 s.data.toList := ⟨_, rfl⟩
  obtain ⟨h, hh⟩ : ∃ v, v = getB l0 s.data.toList := ⟨_, rfl⟩
  obtain ⟨x, hx⟩ : ∃ v, v = getN l1 s.data.toList := ⟨_, rfl⟩
  obtain ⟨o, ho⟩ : ∃ v, v = getB l1 s.data.toList := ⟨_, rfl⟩
  obtain ⟨y, hy⟩ : ∃ v, v = getN l2 s.data.toList := ⟨_, rfl⟩
  obtain ⟨f, hf⟩ : ∃ v, v = getB l2 s.data.toList := ⟨_, rfl⟩
  rw [← hn, ← hh, ← hx, ← ho, ← hy, ← hf]
  rw [← hn, ← hh] at H0
  rw [← hx, ← ho] at H1
  rw [← hy, ← hf] at H2
  clear hn hh hx ho hy hf
  obtain ⟨W1, hW1⟩ : ∃ u, u = ((w.alloc (.cells #[.slice a0 n0 c0] 26)).alloc (.cells #[.slice a1 n1 c1] 26)).alloc (.cells #[.slice a2 n2 c2] 26) := ⟨_, rfl⟩
  have S0 := Sep.start w
  have S1 := push_box S0 26 #[.slice a0 n0 c0] w.heap.size rfl
  have S2 := push_box S1 26 #[.slice a1 n1 c1] (w.heap.size + 1) (by simp)
  have S3 := push_box S2 26 #[.slice a2 n2 c2] (w.heap.size + 1 + 1) (by simp)
  clear S0 S1 S2
  rw [← hW1] at S3
  go_enter Try.func54, Try.ntmps54
  go_upto_region 1 with fail
  rw [← hW1]
  clear hW1
  obtain ⟨r0, r1⟩ := Row.one (box_at S3 0 rfl)
  have H3 := Lib.hid S3
  clear S3
  go_wp2_with fail
  go_at_call 74
  refine (H0.out _ H3.out.old).mono ?_
  rintro e w4 ⟨rfl, h4⟩
  have H4 := Lib.hid (H3.out.keep h4)
  clear h4 r0 r1
  obtain ⟨r0, r1⟩ := Row.one (box_at H4.out 1 rfl)
  go_wp2_with fail
  go_at_call 74
  refine (H1.out _ H4.out.old).mono ?_
  rintro e w5 ⟨rfl, h5⟩
  have H5 := Lib.hid (H4.out.keep h5)
  clear h5 r0 r1
  obtain ⟨r0, r1⟩ := Row.one (box_at H5.out 2 rfl)
  go_wp2_with fail
  go_at_call 74
  refine (H2.out _ H5.out.old).mono ?_
  rintro e w6 ⟨rfl, h6⟩
  have H6 := Lib.hid (H5.out.keep h6)
  have HM := Lib.hid (L3.specMax_b x y)
  clear h6 r0 r1
  by_cases hx : x = n
  · subst hx
    by_cases hy : y = x
    · subst hy
      cases h <;> cases o <;> cases f <;>
        (go_wp2_with (first | (go_at_call 75; refine (HM.out _).mono ?_; rintro e w7 ⟨rfl, h7⟩))
         go_ret2
         first
         | exact ⟨by simp [mrg], H6.out.old⟩
         | exact ⟨by simp [mrg], (H6.out.keep h7).old⟩)
    · cases h <;> cases o <;> cases f <;>
        (go_wp2_with (first | (go_at_call 75; refine (HM.out _).mono ?_; rintro e w7 ⟨rfl, h7⟩))
         go_ret2
         first
         | exact ⟨by simp [mrg, hy], H6.out.old⟩
         | exact ⟨by simp [mrg, hy], (H6.out.keep h7).old⟩)
  · by_cases hy : y = n
    · subst hy
      cases h <;> cases o <;> cases f <;>
        (go_wp2_with (first | (go_at_call 75; refine (HM.out _).mono ?_; rintro e w7 ⟨rfl, h7⟩))
         go_ret2
         first
         | exact ⟨by simp [mrg, hx], H6.out.old⟩
         | exact ⟨by simp [mrg, hx], (H6.out.keep h7).old⟩)
    · cases h <;> cases o <;> cases f <;>
        (go_wp2_with (first | (go_at_call 75; refine (HM.out _).mono ?_; rintro e w7 ⟨rfl, h7⟩))
         go_ret2
         first
         | exact ⟨by simp [mrg, hx, hy], H6.out.old⟩
         | exact ⟨by simp [mrg, hx, hy], (H6.out.keep h7).old⟩)
end Go.Proofs.Ytephiilicebdcaa.L5
