/-
  The contract of chapter 5's DecodeRecord of the specification. Condition: at most 2^40 bytes.
-/
import Derived.Test.YtpapncecfleejaaL5Rd2
namespace Go.Proofs.Ytpapncecfleejaa.L5
set_option maxRecDepth 100000
open L4 (boxR push_box box_at)
open Go.ChangeShapes Go.WideShapes Go.ChangeAt Go.RowKit Mem Sl Ex L2 Sv
set_option linter.unusedVariables false
set_option linter.unusedSimpArgs false

/-- What DecodeRecord answers: the record (none: no fields) and whether there is one. -/
def decL (l : List Int) : List F := (decR l).getD []
def decB (l : List Int) : Bool := (decR l).isSome
set_option maxHeartbeats 4000000 in
theorem specDecodeRecord_any (a : Option Addr) (c : Nat) (l : List Int) (w : World) (hr : Reads w w.heap.size a (ints .u8 l)) (hb : Byt l) (hc : l.length ≤ c) (hl : l.length ≤ 1099511627776) :
    Calls Try.prog 43 #[.slice a l.length c] w (GaveRB w (decL l) (decB l)) := by
  obtain ⟨W1, hW1⟩ : ∃ u, u = w.alloc (.cells #[.slice none 0 0] 26) := ⟨_, rfl⟩
  have S0 := Sep.start w
  have S1 := push_box S0 26 #[.slice none 0 0] w.heap.size rfl
  rw [← hW1] at S1
  have H1 := Lib.hid S1
  have hRD := l5Read_any a c l 0 W1 ((hr.below S1.old).more S1.old.size) hb hc hl (by omega) (by omega)
  obtain ⟨N, hN⟩ : ∃ n, n = l.length := ⟨_, rfl⟩
  rw [← hN] at hRD hl ⊢
  have HDR := Lib.hid (decR_rr l)
  obtain ⟨fs, hfs⟩ : ∃ v, v = rrL l 0 := ⟨_, rfl⟩
  obtain ⟨e, he⟩ : ∃ v, v = rrE l 0 := ⟨_, rfl⟩
  obtain ⟨b, hb'⟩ : ∃ v, v = rrB l 0 := ⟨_, rfl⟩
  rw [← hfs, ← he, ← hb'] at hRD
  rw [← hfs, ← he, ← hb', ← hN] at HDR
  obtain ⟨q, hq⟩ : ∃ q, q = fs.length := ⟨_, rfl⟩
  unfold GaveRR at hRD
  rw [← hq] at hRD
  have HRD := Lib.hid hRD
  have HQ := Lib.hid hq
  have hl' : (N : Int) ≤ 1099511627776 := by omega
  clear S0 S1 hRD hN hfs he hb' hq hr hb hc
  go_enter Try.func43, Try.ntmps43
  go_upto_region 1 with fail
  rw [← hW1]
  clear hW1
  go_wp2_with fail
  go_at_call 78
  refine HRD.out.mono ?_
  rintro en w3 ⟨a1, c1, rfl, ho3, hb3⟩
  have S3 := push_own H1.out hb3 ho3
  clear ho3 hb3 H1 HRD
  obtain ⟨G, hG⟩ : ∃ g, g = w3.heap.size := ⟨_, rfl⟩
  obtain ⟨w4, hw4⟩ : ∃ u, u = w3.alloc (.cells #[.slice a1 q c1] 26) := ⟨_, rfl⟩
  have S4 := push_box S3 26 #[.slice a1 q c1] G hG
  rw [← hw4] at S4
  have H4 := Lib.hid S4
  clear S3 S4
  go_upto_region 2 with fail
  rw [← hw4, ← hG]
  clear hw4 hG
  obtain ⟨z0, z1⟩ := Row.one (box_at H4.out 0 rfl)
  obtain ⟨r0, r1⟩ := Row.one (box_at H4.out 2 rfl)
  by_cases hk : b = true ∧ e = (N : Int)
  · obtain ⟨rfl, rfl⟩ := hk
    have HE := Lib.hid (show decL l = fs ∧ decB l = true by unfold decL decB; rw [HDR.out]; simp)
    have S5 := Lib.hid (put_box5 H4.out 0 rfl 0 (.slice a1 q c1))
    obtain ⟨y0, y1⟩ := Row.one (box_at S5.out 0 rfl)
    go_wp2_with fail
    refine bodyPost_ret (v := .tuple #[.agg #[.slice a1 q c1], .bool true]) (by simp [results, Try.results43, go_sem, z0]) rfl ?_
    unfold GaveRB
    rw [HE.out.1, HE.out.2, ← HQ.out]
    exact ⟨a1, c1, rfl, own_from S5.out 1 rfl, S5.out.old⟩
  · have HE := Lib.hid (show decL l = [] ∧ decB l = false by
      have h : (b && decide (e = (N : Int))) = false := by
        cases b with
        | false => rfl
        | true => rw [Bool.true_and, decide_eq_false_iff_not]; exact fun h => hk ⟨rfl, h⟩
      unfold decL decB
      rw [HDR.out, h]
      exact ⟨rfl, rfl⟩)
    have S5 := Lib.hid (put_box5 H4.out 0 rfl 0 (.slice none 0 0))
    rcases (show b = false ∨ (b = true ∧ ¬ e = (N : Int)) by
      cases b with
      | false => exact .inl rfl
      | true => exact .inr ⟨rfl, fun h => hk ⟨rfl, h⟩⟩) with rfl | ⟨rfl, hne⟩
    all_goals
      clear hk
      go_wp2_with fail
      refine bodyPost_ret (v := .tuple #[.agg #[.slice none 0 0], .bool false]) (by simp [results, Try.results43, go_sem, z0]) rfl ?_
      unfold GaveRB
      rw [HE.out.1, HE.out.2]
      exact ⟨none, 0, rfl, OwnV.nil _ _ _ _, S5.out.old⟩
end Go.Proofs.Ytpapncecfleejaa.L5
