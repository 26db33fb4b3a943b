/-
  The contract of chapter 5's EqualRecords of the specification: the records have the same names and numbers in the same order. Conditions: at most 2^40 fields each.
-/
import Derived.Test.YtkfejjoehgipmaaPc
import Derived.Test.YtkfejjoehgipmaaPb
namespace Go.Proofs.Ytkfejjoehgipmaa.L5
set_option maxRecDepth 100000
open L4 (boxR push_box box_at)
open Go.ChangeShapes Go.WideShapes Go.ChangeAt Go.RowKit Mem Sl Ex L2 Sv
set_option linter.unusedVariables false
set_option linter.unusedSimpArgs false

def eqF (f g : F) : Bool := f.t == g.t && f.n == g.n
def eqR (l m : List F) : Bool := l.length == m.length && (l.zip m).all fun p => eqF p.1 p.2
theorem eqF_iff {f g : F} : eqF f g = true ↔ f = g := by
  unfold eqF
  simp only [Bool.and_eq_true, beq_iff_eq]
  exact ⟨fun h => F.ext' h.1 h.2, fun h => by rw [h]; exact ⟨rfl, rfl⟩⟩
theorem eqR_len {l m : List F} (h : ¬ l.length = m.length) : eqR l m = false := by
  unfold eqR
  simp [h]
theorem eqR_all {l m : List F} (h : l.length = m.length) (ha : ∀ j (h1 : j < l.length) (h2 : j < m.length), eqF l[j] m[j] = true) : eqR l m = true := by
  unfold eqR
  simp only [h, beq_self_eq_true, Bool.true_and, List.all_eq_true]
  intro p hp
  obtain ⟨i, hi, rfl⟩ := List.getElem_of_mem hp
  have hi' := hi
  rw [List.length_zip] at hi'
  rw [List.getElem_zip]
  exact ha i (by omega) (by omega)
theorem eqR_no {l m : List F} (j : Nat) (h1 : j < l.length) (h2 : j < m.length) (h : eqF l[j] m[j] = false) : eqR l m = false := by
  unfold eqR
  rw [Bool.and_eq_false_iff]
  right
  rw [List.all_eq_false]
  exact ⟨(l[j], m[j]), List.mem_iff_getElem.2 ⟨j, by simp; omega, by rw [List.getElem_zip]⟩, by simp [h]⟩
theorem eqR_iff {l m : List F} : eqR l m = true ↔ l = m := by
  constructor
  · intro h
    unfold eqR at h
    simp only [Bool.and_eq_true, beq_iff_eq, List.all_eq_true] at h
    refine List.ext_getElem h.1 fun i h1 h2 => ?_
    exact eqF_iff.1 (h.2 (l[i], m[i]) (List.mem_iff_getElem.2 ⟨i, by simp; omega, by rw [List.getElem_zip]⟩))
  · rintro rfl
    exact eqR_all rfl fun j h1 h2 => eqF_iff.2 rfl
set_option maxHeartbeats 4000000 in
theorem specEqualRecords_any (a b : Option Addr) (c d : Nat) (l m : List F) (hl : l.length ≤ 1099511627776) (hm : m.length ≤ 1099511627776) (w : World) (hr : Reads w w.heap.size a (cellsF l)) (hs : Reads w w.heap.size b (cellsF m)) :
    Calls Try.prog 101 #[.agg #[.slice a l.length c], .agg #[.slice b m.length d]] w fun e w' => e = .returned (.bool (eqR l m)) ∧ Below w.heap.size w w' := by
  obtain ⟨i0, hi, hz0, hz1, hz2⟩ := fieldInfo
  have HR := Lib.hid (fun w' (h : Below w.heap.size w w') => hr.below h)
  have HS := Lib.hid (fun w' (h : Below w.heap.size w w') => hs.below h)
  obtain ⟨n, hn⟩ : ∃ n, n = l.length := ⟨_, rfl⟩
  obtain ⟨q, hq⟩ : ∃ q, q = m.length := ⟨_, rfl⟩
  rw [← hn, ← hq]
  rw [← hn] at hl
  rw [← hq] at hm
  have HN := Lib.hid hn
  have HQ := Lib.hid hq
  have hl' : (n : Int) ≤ 1099511627776 := by omega
  have hm' : (q : Int) ≤ 1099511627776 := by omega
  clear hn hq hr hs
  have S0 := Sep.start w
  have S1 := push_box S0 31 #[.slice a n c] w.heap.size rfl
  have S2 := push_box S1 31 #[.slice b q d] (w.heap.size + 1) (by simp)
  clear S0 S1
  obtain ⟨W1, hW1⟩ : ∃ u, u = (w.alloc (.cells #[.slice a n c] 31)).alloc (.cells #[.slice b q d] 31) := ⟨_, rfl⟩
  rw [← hW1] at S2
  go_enter Try.func101, Try.ntmps101
  go_upto_region 1 with fail
  rw [← hW1]
  clear hW1
  have H2 := Lib.hid S2
  obtain ⟨r0, r1⟩ := Row.one (box_at S2 0 rfl)
  obtain ⟨o0, o1⟩ := Row.one (box_at S2 1 rfl)
  clear S2
  by_cases hlen : (n : Int) = (q : Int)
  · obtain rfl : n = q := by omega
    clear hlen
    go_wp2_with fail
    go_loopw [5] (fun i wr => ∃ k : Nat, k ≤ n ∧ i = .int .i64 k ∧ Hid (Sep w wr [boxR w.heap.size 31 #[.slice a n c], boxR (w.heap.size + 1) 31 #[.slice b n d]] ∧ ∀ j (h1 : j < l.length) (h2 : j < m.length), j < k → eqF l[j] m[j] = true)) (fun i _ => n - (intOf i).toNat)
    case atStart => exact ⟨0, Nat.zero_le _, rfl, H2.out, fun j _ _ h => by omega⟩
    case round =>
      obtain ⟨k, hk, rfl, hrel⟩ := hrel
      clear r0 r1 o0 o1
      obtain ⟨r0, r1⟩ := Row.one (box_at hrel.out.1 0 rfl)
      obtain ⟨o0, o1⟩ := Row.one (box_at hrel.out.1 1 rfl)
      by_cases hlt : (k : Int) < (n : Int)
      · have hkl : k < l.length := by have := HN.out; omega
        have hkm : k < m.length := by have := HQ.out; omega
        obtain ⟨ad, rfl, had, h1, h2⟩ := readsF (HR.out _ hrel.out.1.old) k hkl
        obtain ⟨bd, rfl, hbd, h3, h4⟩ := readsF (HS.out _ hrel.out.1.old) k hkm
        obtain ⟨t, ht⟩ : ∃ t, t = l[k].name := ⟨_, rfl⟩
        obtain ⟨x, hx⟩ : ∃ m, m = l[k].n := ⟨_, rfl⟩
        obtain ⟨u, hu⟩ : ∃ t, t = m[k].name := ⟨_, rfl⟩
        obtain ⟨y, hy⟩ : ∃ v, v = m[k].n := ⟨_, rfl⟩
        obtain ⟨bo, hbo⟩ : ∃ b, eqF l[k] m[k] = b := ⟨_, rfl⟩
        have HB := Lib.hid hbo
        have HE := Lib.hid (show (t.toList == u.toList && x == y) = bo by
          rw [← hbo]
          unfold eqF F.t
          rw [← ht, ← hx, ← hu, ← hy, ByteArray.toList_eq, ByteArray.toList_eq])
        rw [← ht] at h1
        rw [← hx] at h2
        rw [← hu] at h3
        rw [← hy] at h4
        clear ht hx hu hy hbo
        have heq := HE.out
        cases bo with
        | true =>
          simp only [Bool.and_eq_true] at heq
          obtain ⟨he1, he2⟩ := heq
          go_wp2_with go_region
          go_roundw
          case rel => exact ⟨k + 1, by omega, by go_num, hrel.out.1.drews 1, fun j h1 h2 h => by
            by_cases e : j < k
            · exact hrel.out.2 j h1 h2 e
            · obtain rfl : j = k := by omega
              exact HB.out⟩
          case measure => simp [intOf]; omega
        | false =>
          have HC := Lib.hid (show (t.toList == u.toList) = false ∨ ((t.toList == u.toList) = true ∧ (x == y) = false) by
            cases h : (t.toList == u.toList) with
            | false => exact .inl rfl
            | true => rw [h] at heq; exact .inr ⟨rfl, by simpa using heq⟩)
          clear heq
          rcases HC.out with he1 | ⟨he1, he2⟩
          · go_wp2_with go_region
            go_ret
            exact ⟨by rw [eqR_no k hkl hkm HB.out]; rfl, (hrel.out.1.drews 1).old⟩
          · go_wp2_with go_region
            go_ret
            exact ⟨by rw [eqR_no k hkl hkm HB.out]; rfl, (hrel.out.1.drews 1).old⟩
      · go_wp2_with fail
        go_ret
        exact ⟨by rw [eqR_all (by rw [← HN.out, ← HQ.out]) (fun j h1 h2 => hrel.out.2 j h1 h2 (by have := HN.out; omega))]; rfl, hrel.out.1.old⟩
  · go_wp2_with fail
    go_ret
    exact ⟨by rw [eqR_len (by rw [← HN.out, ← HQ.out]; omega)]; rfl, H2.out.old⟩
end Go.Proofs.Ytkfejjoehgipmaa.L5
