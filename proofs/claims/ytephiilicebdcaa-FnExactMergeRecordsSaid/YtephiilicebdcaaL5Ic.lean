/-
  The contracts of chapter 5's functions of the program that make records out of maps: fieldsOf, recordOr. Conditions: names of at most 2^48 bytes, at most 2^40 fields.
-/
import Derived.Test.YtephiilicebdcaaL5Ib
import Derived.Test.YtephiilicebdcaaL5Map
import Derived.Test.YtephiilicebdcaaL5Is
import Derived.Test.YtephiilicebdcaaL5Cp
namespace Go.Proofs.Ytephiilicebdcaa.L5
set_option maxRecDepth 100000
open L4 (boxR push_box box_at)
open Go.ChangeShapes Go.WideShapes Go.ChangeAt Go.RowKit Mem Sl Ex L2 Sv
set_option linter.unusedVariables false
set_option linter.unusedSimpArgs false

/-- What a maker of a map leaves. -/
def GaveM (w : World) (n : Nat) (g : List UInt8 → Option Int) (e : Ending) (w' : World) : Prop := ∃ b, e = .returned (.map (some b)) ∧ MapIs w' b n g ∧ w.heap.size ≤ b ∧ Below w.heap.size w w'
set_option maxHeartbeats 2000000 in
theorem fieldsOf_any (a : Option Addr) (c : Nat) (l : List F) (h : isR l = true) (w : World) (hr : Reads w w.heap.size a (cellsF l)) :
    Calls Try.prog 34 #[.agg #[.slice a l.length c]] w (GaveM w l.length (getO l)) := by
  have HR := Lib.hid (fun w' (h : Below w.heap.size w w') => hr.below h)
  have HA := Lib.hid h
  have hl6 := isR_len h
  obtain ⟨n, hn⟩ : ∃ n, n = l.length := ⟨_, rfl⟩
  rw [← hn] at hl6 ⊢
  have HN := Lib.hid hn
  clear hn hr h
  have hl' : (n : Int) ≤ 6 := by omega
  have S1 := push_box (Sep.start w) 26 #[.slice a n c] w.heap.size rfl
  have S2 := Lib.hid (new_map S1 (w.heap.size + 1) (by simp))
  clear S1
  obtain ⟨W1, hW1⟩ : ∃ u, u = (w.alloc (.cells #[.slice a n c] 26)).alloc (.map #[] 0) := ⟨_, rfl⟩
  rw [← hW1] at S2
  have hmm := fun W => run_makeMap_hint 60 9 3 .i64 (n : Int) Try.underlying60 W
  go_enter Try.func34, Try.ntmps34
  go_upto_region 2 with fail
  rw [← hW1]
  clear hW1 hmm
  obtain ⟨r0, r1⟩ := Row.one (box_at S2.out 0 rfl)
  go_wp2_with fail
  clear r0 r1
  go_loopw [13] (fun i wr => ∃ k : Nat, k ≤ n ∧ i = .int .i64 k ∧ Hid (Sep w wr [boxR w.heap.size 26 #[.slice a n c], mapR (w.heap.size + 1) k (getO (l.take k))])) (fun i _ => n - (intOf i).toNat)
  case atStart => exact ⟨0, Nat.zero_le _, rfl, S2.out⟩
  case round =>
    obtain ⟨k, hk, rfl, hrel⟩ := hrel
    by_cases hlt : (k : Int) < (n : Int)
    · have hkl : k < l.length := by have := HN.out; omega
      obtain ⟨ad, rfl, had, h1, h2⟩ := readsF (HR.out _ hrel.out.old) k hkl
      have HU := Lib.hid (getO_take (isR_asc HA.out) k hkl)
      obtain ⟨q1, q2, q3⟩ := isR_at HA.out k hkl
      have q4 := isN_size q1
      have q1 := 0
      obtain ⟨t, ht⟩ : ∃ t, t = l[k].name := ⟨_, rfl⟩
      obtain ⟨m, hm⟩ : ∃ m, m = l[k].n := ⟨_, rfl⟩
      have HT := Lib.hid (show l[k].t = t.data.toList by rw [ht]; rfl)
      rw [HT.out, ← hm] at HU
      rw [← ht] at h1 q4
      rw [← hm] at h2 q2 q3
      clear ht hm
      have S3 := Lib.hid (push_box hrel.out 64 #[.string t, .int .i64 m] wr.heap.size rfl)
      obtain ⟨b0, b1⟩ := Row.two (box_at S3.out 2 rfl)
      have HQ := Lib.hid (And.intro q4 (And.intro q2 q3))
      clear q2 q3 q4
      go_wp2_with (at_mapUpdate; refine wpList_mapUpdate_s S3.out 1 rfl rfl _ _ _ rfl rfl (by unfold maxLen; omega) t m rfl rfl (by have := HQ.out.1; unfold maxLen; omega) (wf_mk (by have := HQ.out.2; omega) (by have := HQ.out.2; omega)) ?_; intro w1 S4'; have S4 := Lib.hid S4'; clear S4')
      go_roundw
      case rel => exact ⟨k + 1, by omega, by go_num, by rw [HU.out]; exact sep_two S4.out⟩
      case measure => simp [intOf]; omega
    · obtain rfl : k = n := by omega
      go_wp2_with fail
      go_ret
      have h1 := map_at hrel.out 1 rfl
      rw [List.take_of_length_le (by rw [HN.out]; exact Nat.le_refl _)] at h1
      exact ⟨_, rfl, h1, by omega, hrel.out.old⟩
end Go.Proofs.Ytephiilicebdcaa.L5
